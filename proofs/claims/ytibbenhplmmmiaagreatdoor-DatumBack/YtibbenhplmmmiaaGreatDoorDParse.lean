/-
  The contract of decimal.Parse: for every text.
-/
import Derived.Test.YtibbenhplmmmiaaGreatDoorDStr
import Derived.Test.YtibbenhplmmmiaaGreatDoorDBackM
import Derived.Test.YtibbenhplmmmiaaGreatDoorMrDText7
import Derived.Test.YtibbenhplmmmiaaGreatDoorDArith
namespace Go.Proofs.YtibbenhplmmmiaaGreatDoor
open Go.RowKit
attribute [local go_sem] cell?_more frozen?_more setCell_more more_lt more_more more_drew more_drewN setCell_drewN alloc_drewN


set_option maxHeartbeats 1000000 in
theorem parse_whole (S R Wh Pa : ByteArray) (b p : Bool) (w : World)
    (C1 : ∀ W, Calls Tryz.prog 208 #[.string S, .string ⟨#[45]⟩] W fun e w' => e = .returned (.tuple #[.string R, .bool b]) ∧ W = w')
    (C2 : ∀ W, Calls Tryz.prog 140 #[.string R, .string ⟨#[46]⟩] W fun e w' => e = .returned (.tuple #[.string Wh, .string Pa, .bool p]) ∧ Grew W w')
    (C3 : ∀ W, Calls Tryz.prog 209 #[.string Wh] W fun e w' => e = .returned (.bool false) ∧ W = w') :
    Calls Tryz.prog 143 #[.string S] w fun e w' => e = .returned (.tuple #[dv 0 0, .int .i64 21]) ∧ Grew w w' := by
  go_enter Tryz.func143, Tryz.ntmps143
  go_wp2_with (first
    | (go_at_call 208; refine (C1 _).mono ?_; rintro e w' ⟨rfl, rfl⟩)
    | (go_at_call 140; refine (C2 _).mono ?_; rintro e w' ⟨rfl, os, n, rfl⟩)
    | (go_at_call 209; refine (C3 _).mono ?_; rintro e w' ⟨rfl, rfl⟩))
  refine bodyPost_ret_by (v := .tuple #[dv 0 0, .int .i64 21]) ?_ rfl ⟨rfl, ?_⟩
  · simp [results, Tryz.results143, go_sem]
  · repeat (first | exact Grew.refl _ | apply Grew.drew | apply Grew.drewN | apply Grew.alloc | apply Grew.more)

set_option maxHeartbeats 1000000 in
theorem parse_part (S R Wh Pa : ByteArray) (b p : Bool) (w : World)
    (C1 : ∀ W, Calls Tryz.prog 208 #[.string S, .string ⟨#[45]⟩] W fun e w' => e = .returned (.tuple #[.string R, .bool b]) ∧ W = w')
    (C2 : ∀ W, Calls Tryz.prog 140 #[.string R, .string ⟨#[46]⟩] W fun e w' => e = .returned (.tuple #[.string Wh, .string Pa, .bool p]) ∧ Grew W w')
    (C3 : ∀ W, Calls Tryz.prog 209 #[.string Wh] W fun e w' => e = .returned (.bool true) ∧ W = w')
    (hp : p = true) (C4 : ∀ W, Calls Tryz.prog 210 #[.string Pa] W fun e w' => e = .returned (.bool false) ∧ W = w') :
    Calls Tryz.prog 143 #[.string S] w fun e w' => e = .returned (.tuple #[dv 0 0, .int .i64 21]) ∧ Grew w w' := by
  subst hp
  go_enter Tryz.func143, Tryz.ntmps143
  go_wp2_with (first
    | (go_at_call 208; refine (C1 _).mono ?_; rintro e w' ⟨rfl, rfl⟩)
    | (go_at_call 140; refine (C2 _).mono ?_; rintro e w' ⟨rfl, os, n, rfl⟩)
    | (go_at_call 209; refine (C3 _).mono ?_; rintro e w' ⟨rfl, rfl⟩)
    | (go_at_call 210; refine (C4 _).mono ?_; rintro e w' ⟨rfl, rfl⟩))
  refine bodyPost_ret_by (v := .tuple #[dv 0 0, .int .i64 21]) ?_ rfl ⟨rfl, ?_⟩
  · simp [results, Tryz.results143, go_sem]
  · repeat (first | exact Grew.refl _ | apply Grew.drew | apply Grew.drewN | apply Grew.alloc | apply Grew.more)

set_option maxHeartbeats 2000000 in
theorem parse_rest (S R Wh Pa Dg : ByteArray) (b p : Bool) (n sz len : Nat) (w : World)
    (C1 : ∀ W, Calls Tryz.prog 208 #[.string S, .string ⟨#[45]⟩] W fun e w' => e = .returned (.tuple #[.string R, .bool b]) ∧ W = w')
    (C2 : ∀ W, Calls Tryz.prog 140 #[.string R, .string ⟨#[46]⟩] W fun e w' => e = .returned (.tuple #[.string Wh, .string Pa, .bool p]) ∧ Grew W w')
    (C3 : ∀ W, Calls Tryz.prog 209 #[.string Wh] W fun e w' => e = .returned (.bool true) ∧ W = w')
    (hadd : Wh ++ Pa = Dg) (hsz : ¬ 9223372036854775807 < Wh.size + Pa.size) (hD : Dg.size = len)
    (C5 : ∀ W, Calls Tryz.prog 211 #[.string Dg] W fun e w' => e = .returned (.tuple #[.int .u64 (n : Int), .int .i64 (sz : Int)]) ∧ W = w')
    (C4 : p = true → ∀ W, Calls Tryz.prog 210 #[.string Pa] W fun e w' => e = .returned (.bool true) ∧ W = w') (hl : (sz : Int) < (len : Int)) :
    Calls Tryz.prog 143 #[.string S] w fun e w' => e = .returned (.tuple #[dv 0 0, .int .i64 21]) ∧ Grew w w' := by
  cases p
  · clear C4
    go_enter Tryz.func143, Tryz.ntmps143
    go_wp2_with (first
      | (go_at_call 208; refine (C1 _).mono ?_; rintro e w' ⟨rfl, rfl⟩)
      | (go_at_call 140; refine (C2 _).mono ?_; rintro e w' ⟨rfl, os, n, rfl⟩)
      | (go_at_call 209; refine (C3 _).mono ?_; rintro e w' ⟨rfl, rfl⟩)
      | (go_at_call 211; refine (C5 _).mono ?_; rintro e w' ⟨rfl, rfl⟩))
    refine bodyPost_ret_by (v := .tuple #[dv 0 0, .int .i64 21]) ?_ rfl ⟨rfl, ?_⟩
    · simp [results, Tryz.results143, go_sem]
    · repeat (first | exact Grew.refl _ | apply Grew.drew | apply Grew.drewN | apply Grew.alloc | apply Grew.more)
  · replace C4 := C4 rfl
    go_enter Tryz.func143, Tryz.ntmps143
    go_wp2_with (first
      | (go_at_call 208; refine (C1 _).mono ?_; rintro e w' ⟨rfl, rfl⟩)
      | (go_at_call 140; refine (C2 _).mono ?_; rintro e w' ⟨rfl, os, n, rfl⟩)
      | (go_at_call 209; refine (C3 _).mono ?_; rintro e w' ⟨rfl, rfl⟩)
      | (go_at_call 210; refine (C4 _).mono ?_; rintro e w' ⟨rfl, rfl⟩)
      | (go_at_call 211; refine (C5 _).mono ?_; rintro e w' ⟨rfl, rfl⟩))
    refine bodyPost_ret_by (v := .tuple #[dv 0 0, .int .i64 21]) ?_ rfl ⟨rfl, ?_⟩
    · simp [results, Tryz.results143, go_sem]
    · repeat (first | exact Grew.refl _ | apply Grew.drew | apply Grew.drewN | apply Grew.alloc | apply Grew.more)

set_option maxHeartbeats 2000000 in
theorem parse_minus (S R Wh Pa Dg : ByteArray) (b p : Bool) (n sz len : Nat) (w : World)
    (C1 : ∀ W, Calls Tryz.prog 208 #[.string S, .string ⟨#[45]⟩] W fun e w' => e = .returned (.tuple #[.string R, .bool b]) ∧ W = w')
    (C2 : ∀ W, Calls Tryz.prog 140 #[.string R, .string ⟨#[46]⟩] W fun e w' => e = .returned (.tuple #[.string Wh, .string Pa, .bool p]) ∧ Grew W w')
    (C3 : ∀ W, Calls Tryz.prog 209 #[.string Wh] W fun e w' => e = .returned (.bool true) ∧ W = w')
    (hadd : Wh ++ Pa = Dg) (hsz : ¬ 9223372036854775807 < Wh.size + Pa.size) (hD : Dg.size = len)
    (C5 : ∀ W, Calls Tryz.prog 211 #[.string Dg] W fun e w' => e = .returned (.tuple #[.int .u64 (n : Int), .int .i64 (sz : Int)]) ∧ W = w')
    (C4 : p = true → ∀ W, Calls Tryz.prog 210 #[.string Pa] W fun e w' => e = .returned (.bool true) ∧ W = w') (hl : ¬ (sz : Int) < (len : Int)) (hb : b = true) (hn : n = 0) :
    Calls Tryz.prog 143 #[.string S] w fun e w' => e = .returned (.tuple #[dv 0 0, .int .i64 21]) ∧ Grew w w' := by
  subst hb
  subst hn
  cases p
  case' false => clear C4
  case' true => replace C4 := C4 rfl
  all_goals
    go_enter Tryz.func143, Tryz.ntmps143
    go_wp2_with (first
      | (go_at_call 208; refine (C1 _).mono ?_; rintro e w' ⟨rfl, rfl⟩)
      | (go_at_call 140; refine (C2 _).mono ?_; rintro e w' ⟨rfl, os, n, rfl⟩)
      | (go_at_call 209; refine (C3 _).mono ?_; rintro e w' ⟨rfl, rfl⟩)
      | (go_at_call 210; refine (C4 _).mono ?_; rintro e w' ⟨rfl, rfl⟩)
      | (go_at_call 211; refine (C5 _).mono ?_; rintro e w' ⟨rfl, rfl⟩))
    refine bodyPost_ret_by (v := .tuple #[dv 0 0, .int .i64 21]) ?_ rfl ⟨rfl, ?_⟩
    · simp [results, Tryz.results143, go_sem]
    · repeat (first | exact Grew.refl _ | apply Grew.drew | apply Grew.drewN | apply Grew.alloc | apply Grew.more)

set_option maxHeartbeats 2000000 in
theorem parse_done (S R Wh Pa Dg : ByteArray) (b p : Bool) (n sz len pl : Nat) (w : World)
    (C1 : ∀ W, Calls Tryz.prog 208 #[.string S, .string ⟨#[45]⟩] W fun e w' => e = .returned (.tuple #[.string R, .bool b]) ∧ W = w')
    (C2 : ∀ W, Calls Tryz.prog 140 #[.string R, .string ⟨#[46]⟩] W fun e w' => e = .returned (.tuple #[.string Wh, .string Pa, .bool p]) ∧ Grew W w')
    (C3 : ∀ W, Calls Tryz.prog 209 #[.string Wh] W fun e w' => e = .returned (.bool true) ∧ W = w')
    (hadd : Wh ++ Pa = Dg) (hsz : ¬ 9223372036854775807 < Wh.size + Pa.size) (hD : Dg.size = len) (hP : Pa.size = pl)
    (C5 : ∀ W, Calls Tryz.prog 211 #[.string Dg] W fun e w' => e = .returned (.tuple #[.int .u64 (n : Int), .int .i64 (sz : Int)]) ∧ W = w')
    (U V E : Int) (C4 : p = true → ∀ W, Calls Tryz.prog 210 #[.string Pa] W fun e w' => e = .returned (.bool true) ∧ W = w') (hl : ¬ (sz : Int) < (len : Int)) (hn : b = true → ¬ (n : Int) = 0)
    (C6 : ∀ W, Calls Tryz.prog 212 #[wd b 0 n, .int .i64 (pl : Int)] W fun e w' => e = .returned (.tuple #[dv U V, .int .i64 E]) ∧ Grew W w') :
    Calls Tryz.prog 143 #[.string S] w fun e w' => e = .returned (.tuple #[dv U V, .int .i64 E]) ∧ Grew w w' := by
  cases b
  · clear hn
    cases p
    case' false => clear C4
    case' true => replace C4 := C4 rfl
    all_goals
      go_enter Tryz.func143, Tryz.ntmps143
      go_wp2_with (first
      | (go_at_call 208; refine (C1 _).mono ?_; rintro e w' ⟨rfl, rfl⟩)
      | (go_at_call 140; refine (C2 _).mono ?_; rintro e w' ⟨rfl, os, n, rfl⟩)
      | (go_at_call 209; refine (C3 _).mono ?_; rintro e w' ⟨rfl, rfl⟩)
      | (go_at_call 210; refine (C4 _).mono ?_; rintro e w' ⟨rfl, rfl⟩)
      | (go_at_call 211; refine (C5 _).mono ?_; rintro e w' ⟨rfl, rfl⟩)
      | (go_at_call 212; refine (C6 _).mono ?_; rintro e w' ⟨rfl, os2, n2, rfl⟩))
      refine bodyPost_ret_by (v := .tuple #[dv U V, .int .i64 E]) ?_ rfl ⟨rfl, ?_⟩
      · simp [results, Tryz.results143, go_sem]
      · repeat (first | exact Grew.refl _ | apply Grew.drew | apply Grew.drewN | apply Grew.alloc | apply Grew.more)
  · have hn0 : ((n : Int) == 0) = false := by simpa using hn rfl
    have hn1 : ¬ n = 0 := by have := hn rfl; omega
    clear hn
    cases p
    case' false => clear C4
    case' true => replace C4 := C4 rfl
    all_goals
      go_enter Tryz.func143, Tryz.ntmps143
      go_wp2_with (first
      | (go_at_call 208; refine (C1 _).mono ?_; rintro e w' ⟨rfl, rfl⟩)
      | (go_at_call 140; refine (C2 _).mono ?_; rintro e w' ⟨rfl, os, n, rfl⟩)
      | (go_at_call 209; refine (C3 _).mono ?_; rintro e w' ⟨rfl, rfl⟩)
      | (go_at_call 210; refine (C4 _).mono ?_; rintro e w' ⟨rfl, rfl⟩)
      | (go_at_call 211; refine (C5 _).mono ?_; rintro e w' ⟨rfl, rfl⟩)
      | (go_at_call 212; refine (C6 _).mono ?_; rintro e w' ⟨rfl, os2, n2, rfl⟩))
      refine bodyPost_ret_by (v := .tuple #[dv U V, .int .i64 E]) ?_ rfl ⟨rfl, ?_⟩
      · simp [results, Tryz.results143, go_sem]
      · repeat (first | exact Grew.refl _ | apply Grew.drew | apply Grew.drewN | apply Grew.alloc | apply Grew.more)

theorem cutPt_len (l : List UInt8) : (cutPt l).1.length + (cutPt l).2.1.length ≤ l.length := by
  obtain ⟨h, h2⟩ := cutPt_back l
  have := congrArg List.length h
  rw [List.length_append] at this
  cases hb : (cutPt l).2.2
  · rw [h2 hb]; simp; omega
  · rw [hb] at this; simp at this; omega

/-- What Parse answers. -/
def PV (t : List UInt8) : Value :=
  match PR t with
  | none => .tuple #[dv 0 0, .int .i64 21]
  | some (b, n, s) => dres (sval b n) (s : Int)

theorem tell_lt (l : List UInt8) : ∀ n i, n < 18446744073709551616 → (tellF l n i).1 < 18446744073709551616 := by
  induction l with
  | nil => intro n i h; exact h
  | cons c l ih =>
    intro n i h
    unfold tellF
    split
    · exact h
    · refine ih _ _ ?_
      unfold nextN
      split <;> omega

theorem parse_any (t : List UInt8) (w : World) (ht : t.length ≤ 140737488351232) : Calls Tryz.prog 143 #[.string ⟨t.toArray⟩] w fun e w' => e = .returned (PV t) ∧ Grew w w' := by
  have C1 := fun W => cutPrefix_any t W (by omega)
  have hrl : (if t.head? = some 45 then t.drop 1 else t).length ≤ t.length := by
    split
    · rw [List.length_drop]; omega
    · exact Nat.le_refl _
  unfold PV PR
  generalize hb : (if t.head? = some 45 then t.drop 1 else t) = rest at *
  have C2 := fun W => cut_any rest W (by omega)
  have hcl := cutPt_len rest
  generalize (cutPt rest).1 = whole at *
  generalize (cutPt rest).2.1 = part at *
  generalize (cutPt rest).2.2 = p at *
  have C3 := fun W => rightWhole_any whole W
  have C4 := fun W => rightPart_any part W
  have C5 := fun W => tell_any (whole ++ part) W (by rw [List.length_append]; omega)
  have hlt := tell_lt (whole ++ part) 0 0 (by decide)
  have hadd : (ByteArray.mk whole.toArray) ++ (ByteArray.mk part.toArray) = ⟨(whole ++ part).toArray⟩ := ba_app whole part
  have hsz : ¬ 9223372036854775807 < (ByteArray.mk whole.toArray).size + (ByteArray.mk part.toArray).size := by
    show ¬ 9223372036854775807 < whole.length + part.length
    omega
  cases hw : rightW whole
  · rw [hw] at C3
    exact parse_whole _ _ _ _ _ _ w C1 C2 C3
  · rw [hw] at C3
    by_cases hp : p = true ∧ rightP part = false
    · rw [hp.2] at C4
      rw [hp.1, hp.2]
      exact parse_part _ _ _ _ _ _ w C1 C2 C3 hp.1 C4
    · have hc : (true && (!p || rightP part)) = true := by
        cases p
        · rfl
        · have : rightP part = true := by
            cases hq : rightP part
            · exact absurd ⟨rfl, hq⟩ hp
            · rfl
          rw [this]; rfl
      rw [if_pos hc]
      have C4' : p = true → rightP part = true := by
        intro h
        cases hq : rightP part
        · exact absurd ⟨h, hq⟩ hp
        · rfl
      have D4 : ∀ W, Calls Tryz.prog 210 #[.string ⟨part.toArray⟩] W fun e w' => e = .returned (.bool (rightP part)) ∧ W = w' := C4
      have hD : (ByteArray.mk (whole ++ part).toArray).size = (whole ++ part).length := rfl
      have hP : (ByteArray.mk part.toArray).size = part.length := rfl
      by_cases h2 : (tellF (whole ++ part) 0 0).2 < (whole ++ part).length
      · rw [if_pos (Or.inl h2)]
        exact parse_rest _ _ _ _ _ _ p _ _ _ w C1 C2 C3 hadd hsz hD C5 (fun h W => by have := C4 W; rwa [C4' h] at this) (by omega)
      · by_cases h3 : t.head? = some 45 ∧ (tellF (whole ++ part) 0 0).1 = 0
        · rw [if_pos (Or.inr h3)]
          exact parse_minus _ _ _ _ _ _ p _ _ _ w C1 C2 C3 hadd hsz hD C5 (fun h W => by have := C4 W; rwa [C4' h] at this) (by omega) (by simpa using h3.1) h3.2
        · rw [if_neg (by rintro (k | k); exact h2 k; exact h3 k)]
          have C6 := fun W => ofScale_any (decide (t.head? = some 45)) 0 (tellF (whole ++ part) 0 0).1 (part.length : Int) W hlt
          rw [Nat.zero_mul, Nat.zero_add] at C6
          exact parse_done _ _ _ _ _ _ p _ _ _ _ w C1 C2 C3 hadd hsz hD hP C5 _ _ _ (fun h W => by have := C4 W; rwa [C4' h] at this) (by omega) (fun h e => h3 ⟨by simpa using h, by omega⟩) C6
end Go.Proofs.YtibbenhplmmmiaaGreatDoor
