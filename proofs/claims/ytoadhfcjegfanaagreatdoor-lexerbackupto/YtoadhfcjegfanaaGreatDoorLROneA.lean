/-
  The document's lexer: the token that a text begins with is what the program tells.
-/
import Derived.Test.YtoadhfcjegfanaaGreatDoorLROne
namespace Go.Proofs.YtoadhfcjegfanaaGreatDoor
open Go.RowKit Go.Shelf
attribute [local go_sem] cell?_more frozen?_more setCell_more more_lt more_more more_drew more_drewN setCell_drewN alloc_drewN

set_option maxHeartbeats 2000000 in
theorem rparse_nil (w : World) : Calls Tryz.prog 76 #[.string ⟨#[]⟩] w fun e w' => e = .returned (.tuple #[va 0 0 0 ⟨#[]⟩, .int .i64 21]) ∧ Below w.heap.size w w' := by
  go_enter Tryz.func76, Tryz.ntmps76
  go_wp2
  refine bodyPost_ret_by (v := .tuple #[va 0 0 0 ⟨#[]⟩, .int .i64 21]) ?_ rfl ⟨rfl, ?_⟩
  · simp [results, Tryz.results76, go_sem]
  · exact ((Below.refl _ w).alloc (Nat.le_refl _) _).alloc (by simp) _

theorem wordN_take (m : List UInt8) : wordN (m.take (wordN m)) = wordN m := by
  induction m with
  | nil => rfl
  | cons c m ih =>
    by_cases h : isW c = true
    · rw [show wordN (c :: m) = wordN m + 1 by rw [wordN, if_pos h], List.take_succ_cons, wordN, if_pos h, ih]
    · rw [show wordN (c :: m) = 0 by rw [wordN, if_neg h]]; rfl

theorem rone_any (c : UInt8) (m : List UInt8) (w : World) (hl : (c :: m).length ≤ 4096) :
    Calls Tryz.prog 52 #[.string ⟨(c :: m).toArray⟩] w fun e w' => (match tok vz dpv (c :: m) 0 with | none => ∃ x : Tok, e = .returned (.tuple #[tkv x, .bool false]) | some x => e = .returned (.tuple #[tkv x, .bool true])) ∧ Below w.heap.size w w' := by
  have hS : (ByteArray.mk (c :: m).toArray).size = (c :: m).length := rfl
  have h0 : (0 : Int) < ((c :: m).length : Int) := by simp
  have hg : ∀ h, (ByteArray.mk (c :: m).toArray)[0]'h = c := fun h => rfl
  have hle := lxt_le (c :: m)
  have hX : ∀ n, (ByteArray.mk (c :: m).toArray).extract 0 n = ⟨((c :: m).take n).toArray⟩ := fun n => by rw [ba_extract]; rfl
  have Lt := fun W => rletter_any c W
  have Dg := fun W => rdigit_any c W
  have hlit := lit_take (c :: m)
  have hk := kind_le (c :: m)
  have q39 := eqInt c 39
  cases hL : isL c with
  | true =>
    rw [hL] at Lt
    have hlx : lxt (c :: m) = (1, wordN m + 1) := by rw [lxt_cons, if_pos hL]
    have hwn : wordN m + 1 = 0 + wordN ((c :: m).drop 0) := by rw [List.drop_zero, wordN, if_pos (by simp [isW, hL])]; omega
    have hn : wordN m + 1 ≤ (c :: m).length := by rw [hlx] at hle; exact hle
    have hwl : wordL ((c :: m).take (wordN m + 1)) = decide (wordN m + 1 ≤ 32) := by
      have hlm : (m.take (wordN m)).length = wordN m := by rw [List.length_take]; have := wordN_le m; omega
      unfold wordL
      rw [List.take_succ_cons, lxt_cons, if_pos hL, wordN_take, List.length_cons, hlm]
      simp
    have Wd : ∀ W, Calls Tryz.prog 15 #[.string ⟨((c :: m).take (wordN m + 1)).toArray⟩] W fun e w' => e = .returned (.bool (decide (wordN m + 1 ≤ 32))) ∧ W = w' := fun W => by
      have := rword_any ((c :: m).take (wordN m + 1)) W (by rw [List.length_take]; omega)
      rwa [hwl] at this
    refine (rone_wrd (c :: m) _ _ c (wordN m + 1) (c :: m).length w hS h0 hn hl hg (hX _) (bat_get (c :: m)) rfl hwn Lt (fun c W => rletter_any c W) (fun c W => rdigit_any c W) _ Wd).mono ?_
    rintro e w' ⟨rfl, hb⟩
    refine ⟨?_, hb⟩
    unfold tok
    rw [hlx]
    simp only
    by_cases h32 : wordN m + 1 ≤ 32
    · rw [decide_eq_true h32]
      simp [h32]
    · rw [decide_eq_false h32]
      simp only [h32]
      exact ⟨⟨1, (c :: m).take (wordN m + 1), vz, 0⟩, rfl⟩
  | false =>
    rw [hL] at Lt
    cases hD : isD c with
    | true =>
      rw [hD] at Dg
      have hlx : lxt (c :: m) = (3, numN m + 1) := by rw [lxt_cons, if_neg (by simp [hL]), if_pos hD]
      have hnn : numN (c :: m) = numN m + 1 := by rw [numN, if_pos hD]
      have hn : numN m + 1 ≤ (c :: m).length := by rw [hlx] at hle; exact hle
      have Nm : ∀ W, Calls Tryz.prog 73 #[.string ⟨(c :: m).toArray⟩] W fun e w' => e = .returned (.int .i64 ((numN m + 1 : Nat) : Int)) ∧ W = w' := fun W => by
        have := rnumber5_any (c :: m) W hl
        rwa [hnn] at this
      rw [hlx] at hlit
      have V := fun W => rparse_any ((c :: m).take (numN m + 1)) W (by rw [List.length_take]; omega) (hlit rfl) (by
        intro h
        have : c = 39 := by simpa using h
        rw [this] at hD; cases hD)
      unfold tok
      rw [hlx]
      simp only
      cases hv : dpv ((c :: m).take (numN m + 1)) with
      | none =>
        rw [hv] at V
        refine (rone_num _ _ c (numN m + 1) (c :: m).length w hS h0 hn hl hg (hX _) Lt Dg Nm 0 0 0 21 ⟨#[]⟩ V).mono ?_
        rintro e w' ⟨rfl, hb⟩
        exact ⟨⟨⟨3, (c :: m).take (numN m + 1), vz, 0⟩, rfl⟩, hb⟩
      | some v =>
        rw [hv] at V
        exact rone_num _ _ c (numN m + 1) (c :: m).length w hS h0 hn hl hg (hX _) Lt Dg Nm v.k v.n v.m 0 ⟨v.b.toArray⟩ V
    | false =>
      rw [hD] at Dg
      by_cases hq : c = 39
      · subst hq
        have Qt := fun W => rquoted5_any (39 :: m) W hl (by simp)
        cases ht : textN m with
        | none =>
          have hlx : lxt (39 :: m) = (0, 0) := by rw [lxt_cons, if_neg (by simp [hL]), if_neg (by simp [hD]), if_pos rfl, ht]
          have Qt' : ∀ W, Calls Tryz.prog 74 #[.string ⟨(39 :: m).toArray⟩] W fun e w' => e = .returned (.int .i64 ((0 : Nat) : Int)) ∧ W = w' := fun W => by
            have := Qt W
            rw [show (39 :: m).drop 1 = m from rfl, ht] at this
            exact this
          refine (rone_txt _ _ 39 0 (39 :: m).length w hS h0 (by omega) hl hg (hX 0) Lt Dg (by decide) Qt' 0 0 0 21 ⟨#[]⟩ (fun W => rparse_nil W)).mono ?_
          rintro e w' ⟨rfl, hb⟩
          refine ⟨?_, hb⟩
          unfold tok
          rw [hlx]
          exact ⟨⟨3, [], vz, 0⟩, rfl⟩
        | some n =>
          have hlx : lxt (39 :: m) = (3, n + 1) := by rw [lxt_cons, if_neg (by simp [hL]), if_neg (by simp [hD]), if_pos rfl, ht]
          have hn1 := textN_le m n ht
          have hn : n + 1 ≤ (39 :: m).length := by simp; omega
          have Qt' : ∀ W, Calls Tryz.prog 74 #[.string ⟨(39 :: m).toArray⟩] W fun e w' => e = .returned (.int .i64 ((n + 1 : Nat) : Int)) ∧ W = w' := fun W => by
            have := Qt W
            rw [show (39 :: m).drop 1 = m from rfl, ht] at this
            exact this
          rw [hlx] at hlit
          have V := fun W => rparse_any ((39 :: m).take (n + 1)) W (by rw [List.length_take]; omega) (hlit rfl) (fun _ => by rw [List.length_take]; omega)
          unfold tok
          rw [hlx]
          simp only
          cases hv : dpv ((39 :: m).take (n + 1)) with
          | none =>
            rw [hv] at V
            refine (rone_txt _ _ 39 (n + 1) (39 :: m).length w hS h0 hn hl hg (hX _) Lt Dg (by decide) Qt' 0 0 0 21 ⟨#[]⟩ V).mono ?_
            rintro e w' ⟨rfl, hb⟩
            exact ⟨⟨⟨3, (39 :: m).take (n + 1), vz, 0⟩, rfl⟩, hb⟩
          | some v =>
            rw [hv] at V
            exact rone_txt _ _ 39 (n + 1) (39 :: m).length w hS h0 hn hl hg (hX _) Lt Dg (by decide) Qt' v.k v.n v.m 0 ⟨v.b.toArray⟩ V
      · have h39 : ((c.toNat : Int) == 39) = false := by rw [decide_eq_false hq] at q39; exact q39
        have Sg : ∀ W, Calls Tryz.prog 75 #[.string ⟨(c :: m).toArray⟩] W fun e w' => e = .returned (.int .i64 ((if (lxt (c :: m)).1 = 2 then (lxt (c :: m)).2 else 0 : Nat) : Int)) ∧ Below W.heap.size W w' := fun W => (rsign_any c m W hL hD hq).mono fun e w' ⟨h1, h2⟩ => ⟨h1, h2.below⟩
        have h02 : (lxt (c :: m)).1 = 0 ∨ (lxt (c :: m)).1 = 2 := by
          rw [lxt_cons, if_neg (by simp [hL]), if_neg (by simp [hD]), if_neg hq]
          repeat' split
          all_goals simp
        rcases h02 with h | h
        · rw [if_neg (by rw [h]; decide)] at Sg
          refine (rone_sgn _ _ c 0 (c :: m).length w hS h0 (by omega) hl hg (hX 0) Lt Dg h39 Sg).mono ?_
          rintro e w' ⟨rfl, hb⟩
          refine ⟨?_, hb⟩
          unfold tok
          rw [if_pos h]
          exact ⟨⟨2, [], vz, 0⟩, rfl⟩
        · rw [if_pos h] at Sg
          have hp := lxt_pos (c :: m) (by rw [h]; decide)
          have R := rone_sgn _ _ c (lxt (c :: m)).2 (c :: m).length w hS h0 hle hl hg (hX _) Lt Dg h39 Sg
          rw [decide_eq_true (show 0 < (lxt (c :: m)).2 by omega)] at R
          refine R.mono ?_
          rintro e w' ⟨rfl, hb⟩
          refine ⟨?_, hb⟩
          unfold tok
          rw [h, if_neg (by decide), if_neg (by decide), if_neg (by decide)]
          rfl
end Go.Proofs.YtoadhfcjegfanaaGreatDoor
