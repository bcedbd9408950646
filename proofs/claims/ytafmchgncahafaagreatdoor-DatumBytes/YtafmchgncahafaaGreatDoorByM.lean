/-
  The document's reader lies still while other blocks are written; a row of values of one's own; both ways of reading a row are the same.
-/
import Derived.Test.YtafmchgncahafaaGreatDoorByG
import Derived.Test.YtafmchgncahafaaGreatDoorMmKReadsP6
import Derived.Deep.AppendLies
namespace Go.Proofs.YtafmchgncahafaaGreatDoor.By
open Go.RowKit Go.Proofs.YtafmchgncahafaaGreatDoor.Co Go.Proofs.YtafmchgncahafaaGreatDoor.Bk
attribute [local go_sem] cell?_more frozen?_more setCell_more more_lt more_more more_drew more_drewN setCell_drewN alloc_drewN
abbrev vcs (v : Va) : Array Value := #[.int .i64 v.k, .int .i64 v.n, .int .i64 v.m, .string ⟨v.b.toArray⟩]
def vcells (l : List Va) : List Value := l.flatMap fun v => (vcs v).toList
theorem vcells_len (l : List Va) : (vcells l).length = l.length * 4 := by
  induction l with
  | nil => rfl
  | cons a l ih =>
    have e : vcells (a :: l) = (vcs a).toList ++ vcells l := by simp [vcells]
    rw [e, List.length_append, ih, List.length_cons]
    simp
    omega
theorem vcells_app (l r : List Va) : vcells (l ++ r) = vcells l ++ vcells r := by simp [vcells]
theorem vcells_at (x : List Va) : ∀ (i j : Nat) (hi : i < x.length), j < 4 → (vcells x)[i * 4 + j]? = (vcs x[i])[j]? := by
  induction x with
  | nil => intro i j hi; simp at hi
  | cons t x ih =>
    intro i j hi hj
    have e : vcells (t :: x) = (vcs t).toList ++ vcells x := by simp [vcells]
    rw [e]
    cases i with
    | zero =>
      rw [List.getElem?_append_left (by simpa using hj)]
      simp
    | succ i =>
      rw [List.getElem?_append_right (by simp; omega)]
      simp at hi
      have := ih i j hi hj
      simp only [List.getElem_cons_succ]
      rw [← this]
      congr 1
      simp; omega
theorem vcells_take (l : List Va) (f : Nat) (h : f ≤ l.length) : (vcells l).take (f * 4) = vcells (l.take f) := by
  have e : vcells l = vcells (l.take f) ++ vcells (l.drop f) := by rw [← vcells_app, List.take_append_drop]
  rw [e, List.take_append_of_le_length (by rw [vcells_len, List.length_take]; omega), List.take_of_length_le (by rw [vcells_len, List.length_take]; omega)]
theorem one_va (v : Va) : ∀ u ∈ (vcs v).toList, u.oneCell' = true := by
  intro u hu
  simp at hu
  rcases hu with rfl | rfl | rfl | rfl <;> rfl

/-- A stack of values of one's own. -/
abbrev Vk (w : World) (base : Nat) (v : Value) (st : List Va) : Prop := w.ownsRow base 47 4 v st.length (vcells st)
theorem Vk.shape {w : World} {base : Nat} {v : Value} {st : List Va} (h : Vk w base v st) :
    ∃ ao cap, v = .slice ao st.length cap ∧ st.length ≤ cap ∧ (ao = none → st = [] ∧ cap = 0) ∧ (∀ f, f ≤ st.length → Vk w base (.slice ao f cap) (st.take f)) ∧ (∀ a, ao = some a → ∃ g, a = ⟨g, 0, none⟩ ∧ base ≤ g ∧ g < w.heap.size ∧ ∀ i (h : i < st.length), At4 w g (i * 4) st[i]) := by
  obtain ⟨h1, h2⟩ := h
  rcases h2 with ⟨rfl, hn⟩ | ⟨g, cap, cur, rfl, hb, hg, hnc, hcm, hcs, htake⟩
  · have : st = [] := List.length_eq_zero_iff.1 hn
    subst this
    exact ⟨none, 0, rfl, Nat.le_refl _, fun _ => ⟨rfl, rfl⟩, fun f hf => by simp at hf; subst hf; exact World.ownsRow_nil _ _ _ _, fun a ha => by cases ha⟩
  · refine ⟨some ⟨g, 0, none⟩, cap, rfl, hnc, (fun h => by cases h), fun f hf => ?_, fun a ha => ?_⟩
    · have e : (st.take f).length = f := by rw [List.length_take]; omega
      show w.ownsRow base _ 4 _ (st.take f).length _
      rw [e]
      refine ⟨by rw [vcells_len, e], .inr ⟨g, cap, cur, rfl, hb, hg, by omega, hcm, hcs, ?_⟩⟩
      have : cur.toList.take (f * 4) = (cur.toList.take (st.length * 4)).take (f * 4) := by rw [List.take_take, Nat.min_eq_left (by omega)]
      rw [this, htake, vcells_take st f hf]
    · cases ha
      have hlt : g < w.heap.size := by
        rcases Nat.lt_or_ge g w.heap.size with h | h
        · exact h
        · rw [Array.getElem?_eq_none h] at hg; cases hg
      refine ⟨g, rfl, hb, hlt, fun i hi => ?_⟩
      have hc : ∀ j, j < 4 → w.cell? ⟨g, i * 4 + j, none⟩ = (vcs st[i])[j]? := by
        intro j hj
        rw [← vcells_at st i j hi hj, cell_of_row w g (i * 4 + j) cur _ (0, 0) hg, ← htake]
        rw [List.getElem?_take, if_pos (by omega)]
        simp
      exact ⟨hc 0 (by decide), hc 1 (by decide), hc 2 (by decide), hc 3 (by decide)⟩
theorem Vk.push {w : World} {base n : Nat} {d : Va} {v : Value} {st : List Va} (hl : st.length = n) (h : w.ownsRow base 47 4 v (n + 1) (vcells st ++ (vcs d).toList)) : Vk w base v (st ++ [d]) := by
  subst hl
  show w.ownsRow _ _ _ _ (st ++ [d]).length (vcells (st ++ [d]))
  have e1 : (st ++ [d]).length = st.length + 1 := by simp
  have e2 : vcells (st ++ [d]) = vcells st ++ (vcs d).toList := by rw [vcells_app]; simp [vcells]
  rw [e1, e2]
  exact h
theorem Vk.later {w w' : World} {base : Nat} {v : Value} {st : List Va} (h : Vk w base v st) (hb : Below w.heap.size w w') : Vk w' base v st :=
  World.ownsRow.kept (row := none) h ⟨hb.os, hb.tape, hb.output, hb.size, fun k hk _ => hb.block k hk⟩ (by
    cases hv : v.ownBlock with
    | none => exact .inl rfl
    | some k => exact .inr (by simp))
theorem rrdr_later {w w' : World} {p : Nat} {bs : List UInt8} {k e : Nat} (h : RRdr w p bs k e) (hb : Below w.heap.size w w') : RRdr w' p bs k e := by
  obtain ⟨ao, cap, hC, hR, hk, hne⟩ := h
  have hp : p < w.heap.size := by
    rcases Nat.lt_or_ge p w.heap.size with h' | h'
    · exact h'
    · rw [Array.getElem?_eq_none h'] at hC; cases hC
  exact ⟨ao, cap, by rw [hb.block p hp]; exact hC, hR.later hb, hk, hne⟩
theorem rrdr_lt {w : World} {p : Nat} {bs : List UInt8} {k e : Nat} (h : RRdr w p bs k e) : p < w.heap.size := by
  obtain ⟨ao, cap, hC, _⟩ := h
  rcases Nat.lt_or_ge p w.heap.size with h' | h'
  · exact h'
  · rw [Array.getElem?_eq_none h'] at hC; cases hC
/-- A store into a block whose first cell is a whole number leaves a reader as it is. -/
theorem rrdr_set {w : World} {p : Nat} {bs : List UInt8} {k e g j : Nat} {v : Value} (h : RRdr w p bs k e) (hg : g ≠ p) (hc : ∃ z, w.cell? ⟨g, 0, none⟩ = some (.int .i64 z)) : RRdr (w.setCell ⟨g, j, none⟩ v) p bs k e := by
  obtain ⟨ao, cap, hC, hR, hk, hne⟩ := h
  refine ⟨ao, cap, by rw [heap_off w g j p v (Ne.symm hg)]; exact hC, ?_, hk, hne⟩
  obtain ⟨h1, h2, h3, h4, h5⟩ := hR
  refine ⟨h1, h2, h3, h4, fun hn => ?_⟩
  obtain ⟨b, off, rfl, hcells⟩ := h5 hn
  refine ⟨b, off, rfl, fun i hi => ?_⟩
  have hoff : off = 0 := by
    rcases hne with h | ⟨g', h, _⟩
    · cases h
    · cases h; rfl
  subst hoff
  have hbg : b ≠ g := by
    rintro rfl
    have h0 := hcells 0 hn
    obtain ⟨z, hz⟩ := hc
    rw [Nat.zero_add, hz] at h0
    cases h0
  rw [← hcells i hi]
  exact World.cell?_of_block (heap_off w g j b v hbg)

/-- A block that grows, whose first cell is a whole number, leaves the reader as it is. -/
theorem rrdr_grown {w w' : World} {p : Nat} {bs : List UInt8} {k e g : Nat} (h : RRdr w p bs k e) (hg : w.grownBy w' (some g)) (hgp : g ≠ p) (hc : ∃ z, w.cell? ⟨g, 0, none⟩ = some (.int .i64 z)) : RRdr w' p bs k e := by
  have hp := rrdr_lt h
  obtain ⟨ao, cap, hC, hR, hk, hne⟩ := h
  refine ⟨ao, cap, by rw [hg.block p hp (fun h => hgp (Option.some.inj h).symm)]; exact hC, ?_, hk, hne⟩
  obtain ⟨h1, h2, h3, h4, h5⟩ := hR
  refine ⟨h1, h2, h3, h4, fun hn => ?_⟩
  obtain ⟨b, off, rfl, hcells⟩ := h5 hn
  refine ⟨b, off, rfl, fun i hi => ?_⟩
  have hoff : off = 0 := by
    rcases hne with h | ⟨g', h, _⟩
    · cases h
    · cases h; rfl
  subst hoff
  have hbg : b ≠ g := by
    rintro rfl
    have h0 := hcells 0 hn
    obtain ⟨z, hz⟩ := hc
    rw [Nat.zero_add, hz] at h0
    cases h0
  have hc0 := hcells i hi
  rw [← hc0]
  exact World.cell?_of_block (hg.block b (World.block_lt_of_cell? w _ hc0) (fun h => hbg (Option.some.inj h)))
/-- Values that the document reads one behind the other, till the first error. -/
def rdR (bs : List UInt8) : Nat → Nat → Nat → List Va × Nat × Nat
  | 0, k, e => ([], k, e)
  | n + 1, k, e => if e = 0 then ((tvR bs k e).1 :: (rdR bs n (tvR bs k e).2.1 (tvR bs k e).2.2).1, (rdR bs n (tvR bs k e).2.1 (tvR bs k e).2.2).2) else ([], k, e)
theorem rNum_err (bs : List UInt8) (k e : Nat) (h : e ≠ 0) : rNum bs k e = (0, k, e) := by unfold rNum; rw [if_pos h]
theorem tvR_err (bs : List UInt8) (k e : Nat) (h : e ≠ 0) : tvR bs k e = (⟨0, 0, 0, []⟩, k, e) := by
  unfold tvR
  rw [rNum_err bs k e h]
  rw [if_neg (by simp), if_neg (by simp), if_neg (by simp)]
theorem rdV_err (bs : List UInt8) : ∀ n k e, e ≠ 0 → (rdV bs n k e).2 = (k, e) := by
  intro n
  induction n with
  | zero => intro k e _; rfl
  | succ n ih => intro k e h; simp only [rdV]; rw [tvR_err bs k e h]; exact ih k e h
/-- Where no error comes both read the same; else both end in an error. -/
theorem rd_same (bs : List UInt8) : ∀ n k e, (rdR bs n k e).2.2 = (rdV bs n k e).2.2 ∧ ((rdV bs n k e).2.2 = 0 → rdR bs n k e = rdV bs n k e) := by
  intro n
  induction n with
  | zero => intro k e; exact ⟨rfl, fun _ => rfl⟩
  | succ n ih =>
    intro k e
    by_cases h : e = 0
    · simp only [rdR, rdV]
      rw [if_pos h]
      obtain ⟨a, b⟩ := ih (tvR bs k e).2.1 (tvR bs k e).2.2
      exact ⟨a, fun hz => by rw [b hz]⟩
    · have h1 := rdV_err bs (n + 1) k e h
      simp only [rdR]
      rw [if_neg h, h1]
      exact ⟨rfl, fun hz => absurd hz h⟩
theorem rdR_len (bs : List UInt8) : ∀ n k e, (rdR bs n k e).1.length ≤ n ∧ ((rdR bs n k e).2.2 = 0 → (rdR bs n k e).1.length = n) := by
  intro n
  induction n with
  | zero => intro k e; exact ⟨Nat.le_refl _, fun _ => rfl⟩
  | succ n ih =>
    intro k e
    simp only [rdR]
    by_cases h : e = 0
    · rw [if_pos h]
      obtain ⟨a, b⟩ := ih (tvR bs k e).2.1 (tvR bs k e).2.2
      exact ⟨by simp; omega, fun hz => by simp; exact b hz⟩
    · rw [if_neg h]
      exact ⟨by simp, fun hz => absurd hz h⟩
/-- What the document's From gives: the values, and how the reader is left. -/
def frD (bs : List UInt8) : List Va × Nat × Nat :=
  if (rNum bs 0 0).1 < 0 then ([], (rNum bs 0 0).2.1, 21) else rdR bs (min (rNum bs 0 0).1.toNat 65) (rNum bs 0 0).2.1 (rNum bs 0 0).2.2
def rget (bs : List UInt8) : Option (List Va) := if rDone bs (frD bs).2.1 (frD bs).2.2 = 0 ∧ ckE (frD bs).1 = 0 then some (frD bs).1 else none
theorem done_zero {bs : List UInt8} {k e : Nat} (h : rDone bs k e = 0) : e = 0 := by
  unfold rDone at h
  split at h
  · rename_i he; exact absurd h he
  · rename_i he; omega
theorem get_same (bs : List UInt8) : rget bs = gget bs := by
  unfold rget gget frD
  rcases h0 : rNum bs 0 0 with ⟨n, k1, e1⟩
  dsimp only
  by_cases hn : n < 0
  · rw [if_pos hn, if_pos (show n < 0 ∨ 64 < n from .inl hn), if_neg]
    rintro ⟨c, _⟩
    exact absurd (done_zero c) (by show ¬ (21 : Nat) = 0; decide)
  rw [if_neg hn]
  by_cases hb : 64 < n
  · rw [if_pos (show n < 0 ∨ 64 < n from .inr hb), if_neg]
    rintro ⟨c, d⟩
    have hz := done_zero c
    have hl := (rdR_len bs (min n.toNat 65) k1 e1).2 hz
    unfold ckE at d
    rw [if_pos (by rw [hl]; omega)] at d
    cases d
  rw [if_neg (show ¬ (n < 0 ∨ 64 < n) by omega), show min n.toNat 65 = n.toNat by omega]
  obtain ⟨a, b⟩ := rd_same bs n.toNat k1 e1
  by_cases hz : (rdV bs n.toNat k1 e1).2.2 = 0
  · rw [b hz]
  · rw [if_neg (fun c => hz (a ▸ done_zero c.1)), if_neg (fun c => hz (done_zero c.1))]
end Go.Proofs.YtafmchgncahafaaGreatDoor.By
