/-
  The contracts of datum.toldNumber, datum.told and datum.Parse at the texts of literals.
-/
import Derived.Test.YtibbenhplmmmiaaGreatDoorLVal
import Derived.Test.YtibbenhplmmmiaaGreatDoorMbLJumps
namespace Go.Proofs.YtibbenhplmmmiaaGreatDoor
open Go.RowKit Go.Shelf
attribute [local go_sem] cell?_more frozen?_more setCell_more more_lt more_more more_drew more_drewN setCell_drewN alloc_drewN

/-- A text without a point at its end. -/
def trimP (t : List UInt8) : List UInt8 := if t.getLast? = some 46 then t.dropLast else t
theorem trimP_len (t : List UInt8) : (trimP t).length ≤ t.length := by
  unfold trimP; split <;> simp

theorem trimLite_any (t : List UInt8) (w : World) (hl : t.length ≤ 9223372036854775806) : Calls Tryz.prog 213 #[.string ⟨t.toArray⟩, .string ⟨#[46]⟩] w fun e w' => e = .returned (.string ⟨(trimP t).toArray⟩) ∧ w = w' := by
  have H := fun W => suffix_one t W hl
  unfold trimP
  have hs : (ByteArray.mk t.toArray).size = t.length := rfl
  by_cases h : t.getLast? = some 46
  · rw [decide_eq_true h] at H
    rw [if_pos h]
    have hp : 0 < t.length := by
      rcases Nat.eq_zero_or_pos t.length with h0 | h0
      · rw [List.length_eq_zero_iff.1 h0] at h; cases h
      · exact h0
    have hx : (ByteArray.mk t.toArray).extract 0 (t.length - 1) = ⟨t.dropLast.toArray⟩ := by
      rw [ba_extract, List.dropLast_eq_take]; rfl
    have h1 : ((t.length : Int) - 1).toNat = t.length - 1 := by omega
    have h2 : (1 : Int) ≤ (t.length : Int) := by omega
    have h4 : (0 : Int) ≤ (t.length : Int) - 1 := by omega
    have h5 : (t.length : Int) - 1 ≤ (t.length : Int) := by omega
    generalize ByteArray.mk t.dropLast.toArray = R at *
    generalize ByteArray.mk t.toArray = B at *
    clear h
    generalize t.length = n at *
    go_enter Tryz.func213, Tryz.ntmps213
    go_wp2_with (go_at_call 267; refine (H _).mono ?_; rintro e w' ⟨rfl, rfl⟩)
    go_ret
    exact ⟨rfl, rfl⟩
  · rw [decide_eq_false h] at H
    rw [if_neg h]
    generalize ByteArray.mk t.toArray = B at *
    clear h
    go_enter Tryz.func213, Tryz.ntmps213
    go_wp2_with (go_at_call 267; refine (H _).mono ?_; rintro e w' ⟨rfl, rfl⟩)
    go_ret
    exact ⟨rfl, rfl⟩

theorem trim_any (t : List UInt8) (w : World) (hl : t.length ≤ 9223372036854775806) : Calls Tryz.prog 144 #[.string ⟨t.toArray⟩, .string ⟨#[46]⟩] w fun e w' => e = .returned (.string ⟨(trimP t).toArray⟩) ∧ w = w' := by
  have H := fun W => trimLite_any t W hl
  generalize ByteArray.mk (trimP t).toArray = R at *
  generalize ByteArray.mk t.toArray = B at *
  go_enter Tryz.func144, Tryz.ntmps144
  go_wp2_with (go_at_call 213; refine (H _).mono ?_; rintro e w' ⟨rfl, rfl⟩)
  go_ret
  exact ⟨rfl, rfl⟩

theorem sindex_any (t : List UInt8) (w : World) : Calls Tryz.prog 214 #[.string ⟨t.toArray⟩, .string ⟨#[46]⟩] w fun e w' => e = .returned (.int .i64 (firstIdx ⟨t.toArray⟩ 46)) ∧ w = w' := by
  have H := fun W => index_any t W
  generalize firstIdx ⟨t.toArray⟩ 46 = r at *
  generalize ByteArray.mk t.toArray = B at *
  go_enter Tryz.func214, Tryz.ntmps214
  go_wp2_with (go_at_call 257; refine (H _).mono ?_; rintro e w' ⟨rfl, rfl⟩)
  go_ret
  exact ⟨rfl, rfl⟩

theorem cut_has (t : List UInt8) : decide ((0 : Int) ≤ firstIdx ⟨t.toArray⟩ 46) = decide ((46 : UInt8) ∈ t) := by
  have hnone : ∀ l : List UInt8, (cutPt l).2.2 = decide ((46 : UInt8) ∈ l) := by
    intro l
    induction l with
    | nil => rfl
    | cons c l ih =>
      unfold cutPt
      by_cases h : c = 46
      · simp [h]
      · simp [h, ih, Ne.symm h]
  rw [← hnone]
  rcases first_cut t with ⟨h1, h2⟩ | ⟨i, h1, _, h2⟩
  · rw [h1, h2]; rfl
  · rw [h1, h2]; simp

theorem contains_any (t : List UInt8) (w : World) : Calls Tryz.prog 145 #[.string ⟨t.toArray⟩, .string ⟨#[46]⟩] w fun e w' => e = .returned (.bool (decide ((46 : UInt8) ∈ t))) ∧ w = w' := by
  have H := fun W => sindex_any t W
  rw [← cut_has]
  generalize firstIdx ⟨t.toArray⟩ 46 = r at *
  generalize ByteArray.mk t.toArray = B at *
  go_enter Tryz.func145, Tryz.ntmps145
  go_wp2_with (go_at_call 214; refine (H _).mono ?_; rintro e w' ⟨rfl, rfl⟩)
  go_ret
  exact ⟨rfl, rfl⟩

/-- What toldNumber answers: a number and whether it is one. -/
def tnv (t : List UInt8) : Va × Bool :=
  match PR (trimP t) with
  | none => (⟨if (46 : UInt8) ∈ t then 2 else 1, 0, 0, []⟩, false)
  | some (b, n, s) => (⟨if (46 : UInt8) ∈ t then 2 else 1, nz (sval b n), fs (sval b n) (s : Int), []⟩, fits (sval b n))

set_option maxHeartbeats 1000000 in
theorem toldNumber_any (t : List UInt8) (w : World) (hl : t.length ≤ 140737488351232) : Calls Tryz.prog 76 #[.string ⟨t.toArray⟩] w fun e w' => e = .returned (.tuple #[vv (tnv t).1, .bool (tnv t).2]) ∧ Below w.heap.size w w' := by
  have T := fun W => trim_any t W (by omega)
  have C := fun W => contains_any t W
  have hpl := trimP_len t
  obtain ⟨U, V, E, hP, hE1, hE2⟩ : ∃ U V E, PV (trimP t) = .tuple #[dv U V, .int .i64 E] ∧ (tnv t).1 = ⟨if (46 : UInt8) ∈ t then 2 else 1, U, V, []⟩ ∧ (tnv t).2 = (E == 0) := by
    unfold PV tnv
    cases hp : PR (trimP t) with
    | none => exact ⟨0, 0, 21, rfl, rfl, rfl⟩
    | some q =>
      obtain ⟨b, n, s⟩ := q
      refine ⟨_, _, _, rfl, rfl, ?_⟩
      show fits (sval b n) = _
      unfold nErr
      cases fits (sval b n) <;> rfl
  have P : ∀ W, Calls Tryz.prog 143 #[.string ⟨(trimP t).toArray⟩] W fun e w' => e = .returned (.tuple #[dv U V, .int .i64 E]) ∧ Below W.heap.size W w' := fun W => by
    have := parse_any (trimP t) W (by omega)
    rw [hP] at this
    refine this.mono ?_
    rintro e w' ⟨h1, h2⟩
    exact ⟨h1, h2.below⟩
  rw [hE1, hE2]
  show Calls _ _ _ _ fun e w' => e = .returned (.tuple #[va (if (46 : UInt8) ∈ t then 2 else 1) U V ⟨#[]⟩, .bool (E == 0)]) ∧ _
  clear hE1 hE2 hP hpl hl
  by_cases h : (46 : UInt8) ∈ t
  · rw [decide_eq_true h] at C
    rw [if_pos h]
    clear h
    generalize ByteArray.mk (trimP t).toArray = R at *
    generalize ByteArray.mk t.toArray = B at *
    go_enter Tryz.func76, Tryz.ntmps76
    go_wp2_with (first
      | (go_at_call 144; refine (T _).mono ?_; rintro e w' ⟨rfl, rfl⟩)
      | (go_at_call 143; refine (P _).mono ?_; rintro e w1 ⟨rfl, b1⟩; have bx : Box w1 w.heap.size ⟨0, 0, 0, []⟩ := (Box.new w 0 0 0 []).later b1; obtain ⟨c0, c1, c2, c3⟩ := bx.at4; have f0 := bx.free 0; have f1 := bx.free 1; have f2 := bx.free 2; have f3 := bx.free 3; have lt1 := bx.lt; clear bx)
      | (go_at_call 145; refine (C _).mono ?_; rintro e w' ⟨rfl, rfl⟩))

    refine bodyPost_ret_by (v := .tuple #[va 2 U V ⟨#[]⟩, .bool (E == 0)]) ?_ rfl ⟨rfl, ?_⟩
    · simp [results, Tryz.results76, go_sem, c0, c1, c2, c3, lt1]
    · have b0 : Below w.heap.size w w1 := ((Below.refl _ w).alloc (Nat.le_refl _) _).trans (b1.mono (by simp))
      have hs := b0.size
      exact ((((((b0.setCell (p := ⟨w.heap.size, 0, none⟩) (Nat.le_refl _) _).setCell (p := ⟨w.heap.size, 1, none⟩) (Nat.le_refl _) _).setCell (p := ⟨w.heap.size, 2, none⟩) (Nat.le_refl _) _).setCell (p := ⟨w.heap.size, 3, none⟩) (Nat.le_refl _) _).alloc (by simp; omega) _).alloc (by simp; omega) _)
  · rw [decide_eq_false h] at C
    rw [if_neg h]
    clear h
    generalize ByteArray.mk (trimP t).toArray = R at *
    generalize ByteArray.mk t.toArray = B at *
    go_enter Tryz.func76, Tryz.ntmps76
    go_wp2_with (first
      | (go_at_call 144; refine (T _).mono ?_; rintro e w' ⟨rfl, rfl⟩)
      | (go_at_call 143; refine (P _).mono ?_; rintro e w1 ⟨rfl, b1⟩; have bx : Box w1 w.heap.size ⟨0, 0, 0, []⟩ := (Box.new w 0 0 0 []).later b1; obtain ⟨c0, c1, c2, c3⟩ := bx.at4; have f0 := bx.free 0; have f1 := bx.free 1; have f2 := bx.free 2; have f3 := bx.free 3; have lt1 := bx.lt; clear bx)
      | (go_at_call 145; refine (C _).mono ?_; rintro e w' ⟨rfl, rfl⟩))

    refine bodyPost_ret_by (v := .tuple #[va 1 U V ⟨#[]⟩, .bool (E == 0)]) ?_ rfl ⟨rfl, ?_⟩
    · simp [results, Tryz.results76, go_sem, c0, c1, c2, c3, lt1]
    · have b0 : Below w.heap.size w w1 := ((Below.refl _ w).alloc (Nat.le_refl _) _).trans (b1.mono (by simp))
      have hs := b0.size
      exact ((((((b0.setCell (p := ⟨w.heap.size, 0, none⟩) (Nat.le_refl _) _).setCell (p := ⟨w.heap.size, 1, none⟩) (Nat.le_refl _) _).setCell (p := ⟨w.heap.size, 2, none⟩) (Nat.le_refl _) _).setCell (p := ⟨w.heap.size, 3, none⟩) (Nat.le_refl _) _).alloc (by simp; omega) _).alloc (by simp; omega) _)

/-- What told answers of a literal. -/
def tlv (t : List UInt8) : Va × Bool :=
  if t.head? = some 39 then (match unqL (t.drop 1) with | none => (⟨3, 0, 0, []⟩, false) | some b => (⟨3, 0, 0, b⟩, true)) else tnv t
/-- Does a text begin as a literal does? -/
def litH (t : List UInt8) : Prop := ∃ c l, t = c :: l ∧ (c = 39 ∨ isD c = true)

theorem lit_ne {t : List UInt8} (h : litH t) (c : UInt8) (l : List UInt8) (hc : c ≠ 39) (hd : isD c = false) : ((ByteArray.mk t.toArray).toList == c :: l) = false := by
  obtain ⟨d, m, rfl, h⟩ := h
  rw [ByteArray.toList_eq, beq_eq_false_iff_ne]
  intro e
  simp at e
  rcases h with h | h
  · exact hc (e.1 ▸ h)
  · rw [e.1, hd] at h; cases h

set_option maxHeartbeats 2000000 in
theorem vtold_any (t : List UInt8) (w : World) (hl : t.length ≤ 140737488351232) (hh : litH t) : Calls Tryz.prog 30 #[.string ⟨t.toArray⟩] w fun e w' => e = .returned (.tuple #[vv (tlv t).1, .bool (tlv t).2]) ∧ Below w.heap.size w w' := by
  have n1 := lit_ne hh 110 [117, 108, 108] (by decide) (by decide)
  have n2 := lit_ne hh 116 [114, 117, 101] (by decide) (by decide)
  have n3 := lit_ne hh 102 [97, 108, 115, 101] (by decide) (by decide)
  have H39 : ∀ W, Calls Tryz.prog 73 #[.string ⟨t.toArray⟩, .string ⟨#[39]⟩] W fun e w' => e = .returned (.bool (t.head? == some 39)) ∧ W = w' := fun W => prefix_any ⟨t.toArray⟩ 39 W (by show t.length ≤ _; omega)
  have H60 : ∀ W, Calls Tryz.prog 73 #[.string ⟨t.toArray⟩, .string ⟨#[60]⟩] W fun e w' => e = .returned (.bool (t.head? == some 60)) ∧ W = w' := fun W => prefix_any ⟨t.toArray⟩ 60 W (by show t.length ≤ _; omega)
  have U : ∀ W, Calls Tryz.prog 74 #[.string ⟨t.toArray⟩] W fun e w' => e = .returned (unqV (unqL (t.drop 1))) ∧ Below W.heap.size W w' := fun W => unquoted_any ⟨t.toArray⟩ W hl
  have N := fun W => toldNumber_any t W hl
  have h60 : (t.head? == some 60) = false := by
    obtain ⟨d, m, rfl, h⟩ := hh
    simp
    rintro rfl
    rcases h with h | h <;> revert h <;> decide
  rw [h60] at H60
  unfold tlv
  by_cases hq : t.head? = some 39
  · have hq' : (t.head? == some 39) = true := by simpa using hq
    rw [hq'] at H39
    rw [if_pos hq]
    clear N H60 h60 hh hl hq hq'
    cases hu : unqL (t.drop 1) with
    | none =>
      rw [hu] at U
      show Calls _ _ _ _ fun e w' => e = .returned (.tuple #[va 3 0 0 ⟨#[]⟩, .bool false]) ∧ _
      have U' : ∀ W, Calls Tryz.prog 74 #[.string ⟨t.toArray⟩] W fun e w' => e = .returned (.tuple #[.string ⟨#[]⟩, .bool false]) ∧ Below W.heap.size W w' := U
      clear U hu
      generalize ByteArray.mk t.toArray = B at *
      go_enter Tryz.func30, Tryz.ntmps30
      go_wp2_with (first
        | (go_at_call 73; refine (H39 _).mono ?_; rintro e w' ⟨rfl, rfl⟩)
        | (go_at_call 74; refine (U' _).mono ?_; rintro e w1 ⟨rfl, b1⟩; have bx : Box w1 w.heap.size ⟨0, 0, 0, []⟩ := (Box.new w 0 0 0 []).later b1; obtain ⟨c0, c1, c2, c3⟩ := bx.at4; have f0 := bx.free 0; have f1 := bx.free 1; have f2 := bx.free 2; have f3 := bx.free 3; have lt1 := bx.lt; clear bx))
      refine bodyPost_ret_by (v := .tuple #[va 3 0 0 ⟨#[]⟩, .bool false]) ?_ rfl ⟨rfl, ?_⟩
      · simp [results, Tryz.results30, go_sem, c0, c1, c2, c3]
      · have b0 : Below w.heap.size w w1 := ((Below.refl _ w).alloc (Nat.le_refl _) _).trans (b1.mono (by simp))
        exact (((b0.setCell (p := ⟨w.heap.size, 0, none⟩) (Nat.le_refl _) _).setCell (p := ⟨w.heap.size, 1, none⟩) (Nat.le_refl _) _).setCell (p := ⟨w.heap.size, 2, none⟩) (Nat.le_refl _) _).setCell (p := ⟨w.heap.size, 3, none⟩) (Nat.le_refl _) _
    | some b =>
      rw [hu] at U
      show Calls _ _ _ _ fun e w' => e = .returned (.tuple #[va 3 0 0 ⟨b.toArray⟩, .bool true]) ∧ _
      have U' : ∀ W, Calls Tryz.prog 74 #[.string ⟨t.toArray⟩] W fun e w' => e = .returned (.tuple #[.string ⟨b.toArray⟩, .bool true]) ∧ Below W.heap.size W w' := U
      clear U hu
      generalize ByteArray.mk t.toArray = B at *
      generalize ByteArray.mk b.toArray = C at *
      go_enter Tryz.func30, Tryz.ntmps30
      go_wp2_with (first
        | (go_at_call 73; refine (H39 _).mono ?_; rintro e w' ⟨rfl, rfl⟩)
        | (go_at_call 74; refine (U' _).mono ?_; rintro e w1 ⟨rfl, b1⟩; have bx : Box w1 w.heap.size ⟨0, 0, 0, []⟩ := (Box.new w 0 0 0 []).later b1; obtain ⟨c0, c1, c2, c3⟩ := bx.at4; have f0 := bx.free 0; have f1 := bx.free 1; have f2 := bx.free 2; have f3 := bx.free 3; have lt1 := bx.lt; clear bx))
      refine bodyPost_ret_by (v := .tuple #[va 3 0 0 C, .bool true]) ?_ rfl ⟨rfl, ?_⟩
      · simp [results, Tryz.results30, go_sem, c0, c1, c2, c3]
      · have b0 : Below w.heap.size w w1 := ((Below.refl _ w).alloc (Nat.le_refl _) _).trans (b1.mono (by simp))
        exact (((b0.setCell (p := ⟨w.heap.size, 0, none⟩) (Nat.le_refl _) _).setCell (p := ⟨w.heap.size, 1, none⟩) (Nat.le_refl _) _).setCell (p := ⟨w.heap.size, 2, none⟩) (Nat.le_refl _) _).setCell (p := ⟨w.heap.size, 3, none⟩) (Nat.le_refl _) _
  · have hq' : (t.head? == some 39) = false := by simpa using hq
    rw [hq'] at H39
    rw [if_neg hq]
    rcases hx : tnv t with ⟨⟨k, n, m, b⟩, ok⟩
    rw [hx] at N
    show Calls _ _ _ _ fun e w' => e = .returned (.tuple #[va k n m ⟨b.toArray⟩, .bool ok]) ∧ _
    have N' : ∀ W, Calls Tryz.prog 76 #[.string ⟨t.toArray⟩] W fun e w' => e = .returned (.tuple #[va k n m ⟨b.toArray⟩, .bool ok]) ∧ Below W.heap.size W w' := N
    clear N hx h60 hh hl hq hq' U
    generalize ByteArray.mk t.toArray = B at *
    generalize ByteArray.mk b.toArray = C at *
    go_enter Tryz.func30, Tryz.ntmps30
    go_wp2_with (first
      | (go_at_call 73; with_reducible refine (H39 _).mono ?_; rintro e w' ⟨rfl, rfl⟩)
      | (go_at_call 73; with_reducible refine (H60 _).mono ?_; rintro e w' ⟨rfl, rfl⟩)
      | (go_at_call 76; refine (N' _).mono ?_; rintro e w1 ⟨rfl, b1⟩; have bx : Box w1 w.heap.size ⟨0, 0, 0, []⟩ := (Box.new w 0 0 0 []).later b1; obtain ⟨c0, c1, c2, c3⟩ := bx.at4; have f0 := bx.free 0; have f1 := bx.free 1; have f2 := bx.free 2; have f3 := bx.free 3; have lt1 := bx.lt; clear bx))
    refine bodyPost_ret_by (v := .tuple #[va k n m C, .bool ok]) ?_ rfl ⟨rfl, ?_⟩
    · simp [results, Tryz.results30, go_sem, c0, c1, c2, c3]
    · have b0 : Below w.heap.size w w1 := ((Below.refl _ w).alloc (Nat.le_refl _) _).trans (b1.mono (by simp))
      exact (((b0.setCell (p := ⟨w.heap.size, 0, none⟩) (Nat.le_refl _) _).setCell (p := ⟨w.heap.size, 1, none⟩) (Nat.le_refl _) _).setCell (p := ⟨w.heap.size, 2, none⟩) (Nat.le_refl _) _).setCell (p := ⟨w.heap.size, 3, none⟩) (Nat.le_refl _) _
end Go.Proofs.YtibbenhplmmmiaaGreatDoor
