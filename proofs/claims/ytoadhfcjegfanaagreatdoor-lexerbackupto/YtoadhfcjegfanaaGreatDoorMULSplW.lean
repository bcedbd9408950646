/-
  Tokens of joined tokens, with no program in it: each right token's text is lexed to itself, and so is the joined text of right tokens.
  The walk of LexerSplits: for every text.
-/
import Derived.Test.YtoadhfcjegfanaaGreatDoorLJoin
import Derived.Test.YtoadhfcjegfanaaGreatDoorLRSplit
import Derived.Test.YtoadhfcjegfanaaGreatDoorLSame
import Derived.Test.YtoadhfcjegfanaaGreatDoorMCLFrm
namespace Go.Proofs.YtoadhfcjegfanaaGreatDoor

theorem sameV_eq {a b : Va} (h : sameV a b = true) : a = b := by
  obtain ⟨ak, an, am, ab⟩ := a
  obtain ⟨bk, bn, bm, bb⟩ := b
  simp [sameV] at h
  obtain ⟨h1, h2, h3, h4⟩ := h
  subst h1; subst h2; subst h3; subst h4
  rfl
theorem rtok_one {x : Ti} (h : rtok x = true) : ∃ y : Tok, lexL vz dpv x.t 0 = some [y] ∧ (y.k : Int) = x.k ∧ y.t = x.t ∧ y.v = x.v := by
  unfold rtok at h
  split at h
  · unfold rt1 at h
    split at h
    · rename_i y hy
      simp [sameT] at h
      exact ⟨y, hy, h.1, h.2.1, sameV_eq h.2.2.1⟩
    · cases h
  · cases h
theorem rtok_len {x : Ti} (h : rtok x = true) : 1 ≤ x.t.length ∧ x.t.length ≤ 4096 := by
  obtain ⟨y, hy, _, ht, _⟩ := rtok_one h
  obtain ⟨_, _, h3, _⟩ := lex_first hy
  refine ⟨by rw [← ht]; exact h3, ?_⟩
  unfold rtok at h
  split at h
  · assumption
  · cases h

theorem lex_join (xs : List Ti) (h : ∀ x ∈ xs, rtok x = true) : ∀ i, ∃ ys : List Tok, lexL vz dpv (joinN (xs.map (·.t))) i = some ys ∧ ys.map (fun y => ((y.k : Int), y.t, y.v)) = xs.map (fun x => (x.k, x.t, x.v)) := by
  induction xs with
  | nil => exact fun i => ⟨[], rfl, rfl⟩
  | cons x xs ih =>
    intro i
    obtain ⟨y, hy, h1, h2, h3⟩ := rtok_one (h x (by simp))
    have hyi := lex_at (z := vz) (f := dpv) x.t 0 i
    rw [Nat.zero_add, hy] at hyi
    match xs, ih with
    | [], _ =>
      refine ⟨_, by simp only [List.map_cons, List.map_nil, joinN, List.append_nil]; exact hyi, ?_⟩
      simp [tshift, h1, h2, h3]
    | x2 :: xs, ih =>
      obtain ⟨ys, e1, e2⟩ := ih (fun z hz => h z (by simp at hz ⊢; exact .inr hz)) (i + x.t.length + 1)
      have e : joinN ((x :: x2 :: xs).map (·.t)) = x.t ++ 32 :: joinN ((x2 :: xs).map (·.t)) := rfl
      rw [e, lex_two _ 32 (by decide) x.t i _ hyi, e1]
      refine ⟨_, rfl, ?_⟩
      simp only [List.map_cons, List.map_nil, List.cons_append, List.nil_append] at e2 ⊢
      rw [e2]
      simp [tshift, h1, h2, h3]
theorem join_pos (xs : List Ti) (h : ∀ x ∈ xs, rtok x = true) (hx : 0 < xs.length) : joinN (xs.map (·.t)) ≠ [] := by
  match xs, hx with
  | x :: xs, _ =>
    intro e
    have := (rtok_len (h x (by simp))).1
    have hl := congrArg List.length e
    simp only [List.map_cons, joinN, List.length_append, List.length_nil] at hl
    omega
theorem joinN_len (xs : List Ti) (h : ∀ x ∈ xs, x.t.length ≤ 4096) : (joinN (xs.map (·.t))).length ≤ xs.length * 4097 := by
  induction xs with
  | nil => simp [joinN]
  | cons x xs ih =>
    have h1 := h x (by simp)
    have h2 := ih fun z hz => h z (by simp [hz])
    match xs, h2 with
    | [], _ => simp [joinN]; omega
    | y :: xs, h2 =>
      have e : joinN ((x :: y :: xs).map (·.t)) = x.t ++ 32 :: joinN ((y :: xs).map (·.t)) := rfl
      rw [e, List.length_append, List.length_cons]
      simp only [List.length_cons] at h2 ⊢
      omega
theorem joinN_mem (xs : List Ti) : (joinN (xs.map (·.t))).length ≤ (xs.map (fun x => x.t.length + 1)).sum := by
  induction xs with
  | nil => simp [joinN]
  | cons x xs ih =>
    match xs, ih with
    | [], _ => simp [joinN]
    | y :: xs, h2 =>
      have e : joinN ((x :: y :: xs).map (·.t)) = x.t ++ 32 :: joinN ((y :: xs).map (·.t)) := rfl
      rw [e, List.length_append, List.length_cons]
      simp only [List.map_cons, List.sum_cons] at h2 ⊢
      omega

/-- What the document's Right asks of a token is what the program's asks. -/
theorem rt_same (x : Ti) (h : x.t.length ≤ 4096) : (match lexL vz dpv x.t 0 with | some [y] => ((y.k : Int) == x.k && (y.t == x.t && sameV y.v x.v)) | _ => false) = rtok x := by
  unfold rtok rt1
  rw [if_pos h]
  match hl : lexL vz dpv x.t 0 with
  | none => rfl
  | some [] => rfl
  | some (y1 :: y2 :: ys) => rfl
  | some [y] =>
    obtain ⟨_, h2, h3, h4, _⟩ := lex_first hl
    show _ = sameT (tin y) ⟨x.k, x.t, x.v, 0⟩
    unfold sameT
    simp only
    by_cases ht : y.t = x.t
    · have ha : y.a = 0 := by
        have := congrArg List.length ht
        omega
      rw [ha]
      simp
    · have : (y.t == x.t) = false := by rw [beq_eq_false_iff_ne]; exact ht
      rw [this]
      simp
end Go.Proofs.YtoadhfcjegfanaaGreatDoor

namespace Go.Proofs.YtoadhfcjegfanaaGreatDoor
open Go.RowKit Go.Shelf
attribute [local go_sem] cell?_more frozen?_more setCell_more more_lt more_more more_drew more_drewN setCell_drewN alloc_drewN

abbrev Know (w : World) : Prop := ∀ W, Below w.heap.size w W → Calls Tryz.prog 17 #[] W fun e w' => e = .returned (.bool true) ∧ Below W.heap.size W w'
theorem know_of {w : World} (hT : Tabs w) (hP : Ptab w) : Know w := fun W h => knows5_any W (hT.later h) (hP.later h)

theorem lex_count (l : List UInt8) : ∀ i x, lexL vz dpv l i = some x → x.length ≤ l.length := by
  induction h : l.length using Nat.strongRecOn generalizing l with
  | ind m ih =>
    intro i x hx
    match x, hx with
    | [], _ => simp
    | t :: x, hx =>
      obtain ⟨_, _, h3, h4, _, h6⟩ := lex_first hx
      have := ih (l.drop (blankN l + t.t.length)).length (by rw [List.length_drop]; omega) _ rfl _ _ h6
      rw [List.length_drop] at this
      simp; omega

theorem Rowns.shape {w : World} {base : Nat} {v : Value} {x : List Tok} (h : Rowns w base v x) :
    ∃ ao cap, v = .slice ao x.length cap ∧ Tw w ao (x.map tin) := by
  obtain ⟨h1, h2⟩ := h
  rcases h2 with ⟨rfl, hn⟩ | ⟨g, cap, cur, rfl, hb, hg, hnc, hcm, hcs, htake⟩
  · refine ⟨none, 0, by rw [hn], fun hp => ?_⟩
    rw [List.length_map] at hp
    omega
  · refine ⟨some ⟨g, 0, none⟩, cap, rfl, fun hp => ⟨g, 0, rfl, fun i hi => ?_⟩⟩
    rw [List.length_map] at hi
    have hc : ∀ j, j < 7 → w.cell? ⟨g, 0 + i * 7 + j, none⟩ = (tcs x[i])[j]? := by
      intro j hj
      rw [← tcells_at x i j hi hj, cell_of_row w g (0 + i * 7 + j) cur _ (0, 0) hg, ← htake]
      rw [List.getElem?_take, if_pos (by omega), Nat.zero_add]
      simp
    rw [List.getElem_map]
    exact ⟨hc 0 (by decide), hc 1 (by decide), hc 2 (by decide), hc 3 (by decide), hc 4 (by decide), hc 5 (by decide), hc 6 (by decide)⟩

theorem rsplit_big (B : ByteArray) (w : World) (hl : 4096 < B.size) :
    Calls Tryz.prog 35 #[.string B] w fun e w' => e = .returned (.tuple #[.slice none 0 0, .int .i64 6]) ∧ w = w' := by
  have hl' : (4096 : Int) < (B.size : Int) := by omega
  go_enter Tryz.func35, Tryz.ntmps35
  go_wp2
  refine bodyPost_ret_by (v := .tuple #[.slice none 0 0, .int .i64 6]) ?_ rfl ⟨rfl, rfl⟩
  simp [results, Tryz.results35, go_sem]

end Go.Proofs.YtoadhfcjegfanaaGreatDoor
