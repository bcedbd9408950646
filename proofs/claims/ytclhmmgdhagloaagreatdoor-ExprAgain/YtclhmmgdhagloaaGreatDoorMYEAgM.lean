/-
  longstoplaw06.Same of nodes that are alike.
  ExprBack's walk.
  What a reading leaves, whatever it reads: its place, its nodes. No program is in it.
-/
import Derived.Test.YtclhmmgdhagloaaGreatDoorMUEBkS
import Derived.Test.YtclhmmgdhagloaaGreatDoorEBkP
import Derived.Test.YtclhmmgdhagloaaGreatDoorMQEPrtV
import Derived.Test.YtclhmmgdhagloaaGreatDoorEPrt6
import Derived.Test.YtclhmmgdhagloaaGreatDoorMLEOwn
import Derived.Test.YtclhmmgdhagloaaGreatDoorMREBkL
namespace Go.Proofs.YtclhmmgdhagloaaGreatDoor
open Go.RowKit Go.Shelf
attribute [local go_sem] cell?_more frozen?_more setCell_more more_lt more_more more_drew more_drewN setCell_drewN alloc_drewN

end Go.Proofs.YtclhmmgdhagloaaGreatDoor

namespace Go.Proofs.YtclhmmgdhagloaaGreatDoor
open Go.RowKit Go.Shelf
attribute [local go_sem] cell?_more frozen?_more setCell_more more_lt more_more more_drew more_drewN setCell_drewN alloc_drewN

theorem lex_count {V : Type} {z : V} {f : List UInt8 → Option V} (l : List UInt8) : ∀ i x, lexL z f l i = some x → x.length ≤ l.length := by
  induction h : l.length using Nat.strongRecOn generalizing l with
  | ind m ih =>
    intro i x hx
    match l, h with
    | [], h => cases hx; simp
    | c :: l, h =>
      simp at h
      cases hb : isB c with
      | true =>
        rw [lex_blank _ _ _ hb] at hx
        have := ih l.length (by omega) l rfl _ _ hx
        omega
      | false =>
        rw [lex_tok _ _ _ hb] at hx
        cases hy : tok z f (c :: l) i with
        | none => rw [hy] at hx; cases hx
        | some y =>
          rw [hy] at hx
          simp only at hx
          obtain ⟨_, h2, h3, _⟩ := tok_len hy
          have h4 := lxt_le (c :: l)
          cases hr : lexL z f ((c :: l).drop y.t.length) (i + y.t.length) with
          | none => rw [hr] at hx; cases hx
          | some r =>
            rw [hr] at hx
            have := ih _ (by simp at h4 ⊢; omega) ((c :: l).drop y.t.length) rfl _ _ hr
            simp at hx
            subst hx
            simp at this h4 ⊢
            omega
/-- The tokens of an expression's text, as the reader meets them. -/
theorem nxt_at {xs : List Tok} (hr : ∀ y ∈ xs, rtok (tin y) = true) (k : Nat) (hk : k < xs.length) : nxt (xs.map tin) k = tin xs[k] := by
  unfold nxt
  rw [List.getElem?_map, List.getElem?_eq_getElem hk]
  simp only [Option.map_some]
  rw [if_pos (hr _ (List.getElem_mem _))]
theorem nxt_end (xs : List Tok) (k : Nat) (hk : xs.length ≤ k) : nxt (xs.map tin) k = tz := by
  unfold nxt
  rw [List.getElem?_eq_none (by simpa using hk)]
/-- An expression is read out of its text. -/
theorem read_back {l : List Nd} {t : List UInt8} {s : List Kt} {d : Nat} (h : Tr vE l t s d) (hd : d ≤ 16) (hl : l.length ≤ 256) :
    ∃ xs : List Tok, lexL vz dpv t 0 = some xs ∧ (∀ y ∈ xs, rtok (tin y) = true) ∧ (∀ y ∈ xs, Tok1 y.t) ∧ rdx (nxt (xs.map tin)) vE (xs.length + 1) (7 + 8 * xs.length) .ex 0 [] 0 = (0, xs.length, l) := by
  obtain ⟨xs, hm, hr, hlex⟩ := tr_lex h [] 0 (.inl rfl)
  rw [List.append_nil, lex_nil] at hlex
  simp only [Option.map_some, List.append_nil] at hlex
  have hlen : xs.length = s.length := by rw [← hm, List.length_map]
  refine ⟨xs, hlex, hr, ?_, ?_⟩
  · intro y hy
    exact tr_tok h (kyT y) (by rw [← hm]; exact List.mem_map_of_mem hy)
  · have hseg : Seg (nxt (xs.map tin)) 0 s := by
      intro j hj
      rw [Nat.zero_add, nxt_at hr j (by omega)]
      have e : s[j] = kyT xs[j] := by
        have : s[j]? = (xs.map kyT)[j]? := by rw [hm]
        rw [List.getElem?_eq_getElem hj, List.getElem?_map, List.getElem?_eq_getElem (by omega)] at this
        exact Option.some.inj this
      rw [e]
      exact ⟨rfl, rfl⟩
    have hp := h.pos
    have hend : (nxt (xs.map tin) (0 + s.length)).t = [] := by rw [nxt_end xs _ (by omega)]
    have hu := rd_un h (nxt (xs.map tin)) (xs.length + 1) (8 * xs.length + 1) 0 0 [] hseg (by omega) (by omega) (by omega) (by simpa using hl) (by rw [hend]; rfl) (by rw [hend]; rfl)
    obtain ⟨x, r, hxr, hxn⟩ := h.first
    have hfst : ((nxt (xs.map tin) 0).t == wNot) = false := by
      rw [hxr] at hseg
      rw [hseg.head.2]
      exact hxn
    have := ex_of_un (by omega) hu hfst (by rw [hend]; exact .inr (.inr rfl))
    rw [show 7 + 8 * xs.length = 8 * xs.length + 1 + 6 by omega, this, Nat.zero_add, List.nil_append, hlen]
theorem pars_of (xs : List Tok) (w : World) (hT : Tabs w) (hP : Ptab w) (tp : TypeId) (p : Value) (hE : Esy w tp p) (hr : ∀ y ∈ xs, rtok (tin y) = true) (ht : ∀ y ∈ xs, Tok1 y.t) : Pars w (xs.map tin) vE := by
  refine ⟨rfl, fun k W hW => ?_⟩
  by_cases hk : k < xs.length
  · rw [nxt_at hr k hk]
    have hm := List.getElem_mem hk
    exact vparse_tok _ W (hT.later hW) (hP.later hW) tp p (hE.later hW) (rtok_len (hr _ hm)).2 (ht _ hm)
  · rw [nxt_end xs k (by omega)]
    exact vparse_no [] W (by simp) rfl rfl (by rw [ByteArray.toList_eq]; rfl) (by rw [ByteArray.toList_eq]; rfl) (by rw [ByteArray.toList_eq]; rfl) (by decide +kernel)

end Go.Proofs.YtclhmmgdhagloaaGreatDoor

namespace Go.Proofs.YtclhmmgdhagloaaGreatDoor

/-- A node whose names are short and whose value is of 64 bits. -/
def Gn (x : Nd) : Prop := x.t.length ≤ 4096 ∧ x.n.length ≤ 4096 ∧ vin x.v
theorem vin_z : vin vz0 := ⟨⟨by decide, by decide⟩, ⟨by decide, by decide⟩⟩
theorem gn_op (op : Nat) : Gn (opX op) := ⟨by simp [opX], by simp [opX], vin_z⟩
/-- A reading that has stayed within the tokens. -/
def Okr (L : Nat) (r : Rz) : Prop := (∀ x ∈ r.2.2, Gn x) ∧ r.2.1 ≤ L
theorem put_gn {acc : List Nd} {x : Nd} (h : ∀ y ∈ acc, Gn y) (hx : Gn x) : ∀ y ∈ putN acc x, Gn y := by
  unfold putN
  split
  · intro y hy
    rcases List.mem_append.1 hy with h1 | h1
    · exact h y h1
    · obtain rfl : y = x := by simpa using h1
      exact hx
  · exact h
/-- The tokens end at L, and their texts are short. -/
structure Ntk (N : Nat → Ti) (L : Nat) : Prop where
  over : ∀ k, L ≤ k → (N k).t = [] ∧ nmT (N k) = false
  short : ∀ k, (N k).t.length ≤ 4096
theorem Ntk.lt {N : Nat → Ti} {L k : Nat} (h : Ntk N L) (hk : (N k).t ≠ []) : k < L := by
  rcases Nat.lt_or_ge k L with h1 | h1
  · exact h1
  · exact absurd (h.over k h1).1 hk
theorem Ntk.eq {N : Nat → Ti} {L k : Nat} (h : Ntk N L) {c : UInt8} {l : List UInt8} (hk : ((N k).t == c :: l) = true) : k < L := h.lt (by rw [beq_iff_eq.1 hk]; simp)
theorem steps_ok {N : Nat → Ti} {L f c : Nat} {part : Nat → List Nd → Rz} (hN : Ntk N L) (h0 : opAt [] f c = 0) (hp : ∀ k acc, k ≤ L → (∀ x ∈ acc, Gn x) → Okr L (part k acc)) :
    ∀ m op k acc, k ≤ L → (∀ x ∈ acc, Gn x) → Okr L (stepsF N f c part m op k acc) := by
  intro m
  induction m with
  | zero => intro op k acc hk ha; exact ⟨ha, hk⟩
  | succ m ih =>
    intro op k acc hk ha
    obtain ⟨p1, p2⟩ := hp k acc hk ha
    unfold stepsF
    split
    · have hacc : ∀ x ∈ (if op = 0 then (part k acc).2.2 else putN (part k acc).2.2 (opX op)), Gn x := by
        split
        · exact p1
        · exact put_gn p1 (gn_op op)
      split
      · exact ⟨hacc, p2⟩
      · rename_i ho
        refine ih _ _ _ (hN.lt fun h => ho (by rw [h]; exact h0)) hacc
    · exact ⟨p1, p2⟩
theorem null_ok {N : Nat → Ti} {L k : Nat} {acc : List Nd} (hN : Ntk N L) (hk : k ≤ L) (ha : ∀ x ∈ acc, Gn x) : Okr L (nullF N k acc) := by
  unfold nullF
  split
  · rename_i h1
    have l1 := hN.eq h1
    split
    · rename_i h2
      have l2 := hN.eq h2
      exact ⟨put_gn (put_gn ha (gn_op 5)) (gn_op 4), by show k + 2 ≤ L; omega⟩
    · exact ⟨ha, by show k + 1 ≤ L; omega⟩
  · split
    · rename_i h2
      have l2 := hN.eq h2
      exact ⟨put_gn ha (gn_op 5), by show k + 1 ≤ L; omega⟩
    · exact ⟨ha, hk⟩
theorem args_ok {N : Nat → Ti} {L : Nat} {part : Nat → List Nd → Rz} (hN : Ntk N L) (hp : ∀ k acc, k ≤ L → (∀ x ∈ acc, Gn x) → Okr L (part k acc)) :
    ∀ m k acc c, k ≤ L → (∀ x ∈ acc, Gn x) → Okr L (argsL N part m k acc c).1 := by
  intro m
  induction m with
  | zero => intro k acc c hk ha; exact ⟨ha, hk⟩
  | succ m ih =>
    intro k acc c hk ha
    obtain ⟨p1, p2⟩ := hp k acc hk ha
    unfold argsL
    split
    · split
      · rename_i h1
        have l1 := hN.eq h1
        exact ih _ _ _ (by omega) p1
      · split
        · rename_i h1
          have l1 := hN.eq h1
          exact ⟨p1, by show (part k acc).2.1 + 1 ≤ L; omega⟩
        · exact ⟨p1, p2⟩
    · exact ⟨p1, p2⟩
theorem col_ok {N : Nat → Ti} {L : Nat} {part : Nat → List Nd → Rz} (hN : Ntk N L) (hp : ∀ k acc, k ≤ L → (∀ x ∈ acc, Gn x) → Okr L (part k acc)) (k : Nat) (acc : List Nd) (o : Nat) (hk : k ≤ L) (ha : ∀ x ∈ acc, Gn x) : Okr L (colF N part k acc o) := by
  have gnm : ∀ (a : Int) (o : Int), Gn ⟨o, [], (N k).t, vz0, a⟩ := fun a o => ⟨by simp, hN.short k, vin_z⟩
  unfold colF
  split
  · rename_i hnm
    have l0 : k < L := by
      rcases Nat.lt_or_ge k L with h1 | h1
      · exact h1
      · rw [(hN.over k h1).2] at hnm; cases hnm
    split
    · rename_i h1
      have l1 := hN.eq h1
      split
      · exact ⟨put_gn ha (gnm _ _), by show k + 2 ≤ L; omega⟩
      · have hA : Okr L (argsF N part (k + 2) acc).1 := by
          unfold argsF
          split
          · rename_i h2
            have l2 := hN.eq h2
            exact ⟨ha, by show k + 2 + 1 ≤ L; omega⟩
          · exact args_ok hN hp 4 (k + 2) acc 0 (by omega) ha
        exact ⟨put_gn hA.1 (gnm _ _), hA.2⟩
    · split
      · rename_i h1
        have l1 := hN.eq h1
        split
        · rename_i hnm2
          have l2 : k + 2 < L := by
            rcases Nat.lt_or_ge (k + 2) L with h1 | h1
            · exact h1
            · rw [(hN.over (k + 2) h1).2] at hnm2; cases hnm2
          exact ⟨put_gn ha ⟨hN.short k, hN.short (k + 2), vin_z⟩, by show k + 3 ≤ L; omega⟩
        · exact ⟨ha, by show k + 2 ≤ L; omega⟩
      · exact ⟨put_gn ha (gnm _ _), by show k + 1 ≤ L; omega⟩
  · exact ⟨ha, hk⟩
theorem rdx_ok {N : Nat → Ti} {V : List UInt8 → Option Va} {M L : Nat} (hN : Ntk N L) (hV : ∀ t v, V t = some v → vin v) (hV0 : V [] = none) : ∀ n nt k acc o, k ≤ L → (∀ x ∈ acc, Gn x) → Okr L (rdx N V M n nt k acc o) := by
  intro n
  induction n with
  | zero => intro nt k acc o hk ha; cases nt <;> exact ⟨ha, hk⟩
  | succ n ih =>
    intro nt k acc o hk ha
    cases nt with
    | ex => exact steps_ok hN (by decide) (fun k acc => ih .an k acc o) M 0 k acc hk ha
    | an => exact steps_ok hN (by decide) (fun k acc => ih .no k acc o) M 0 k acc hk ha
    | su => exact steps_ok hN (by decide) (fun k acc => ih .te k acc o) M 0 k acc hk ha
    | te => exact steps_ok hN (by decide) (fun k acc => ih .un k acc o) M 0 k acc hk ha
    | no =>
      unfold rdx
      split
      · rename_i h1
        have l1 := hN.eq h1
        split
        · exact ⟨put_gn ha (gn_op 4), by show k + 1 ≤ L; omega⟩
        · have := ih .no (k + 1) acc (o + 1) (by omega) ha
          exact ⟨put_gn this.1 (gn_op 4), this.2⟩
      · exact ih .co k acc o hk ha
    | co =>
      have h1 := ih .su k acc o hk ha
      unfold rdx
      split
      · split
        · rename_i h2
          have l2 := hN.eq h2
          exact null_ok hN (by omega) h1.1
        · split
          · exact h1
          · rename_i h3
            have l3 := hN.lt (k := (rdx N V M n .su k acc o).2.1) fun h => h3 (by rw [h]; decide)
            have h4 := ih .su ((rdx N V M n .su k acc o).2.1 + 1) (rdx N V M n .su k acc o).2.2 o (by omega) h1.1
            exact ⟨put_gn h4.1 (gn_op _), h4.2⟩
      · exact h1
    | un =>
      unfold rdx
      split
      · rename_i h1
        have l1 := hN.eq h1
        split
        · exact ⟨put_gn ha (gn_op 3), by show k + 1 ≤ L; omega⟩
        · have := ih .un (k + 1) acc (o + 1) (by omega) ha
          exact ⟨put_gn this.1 (gn_op 3), this.2⟩
      · split
        · rename_i h1
          have l1 := hN.eq h1
          split
          · exact ⟨ha, by show k + 1 ≤ L; omega⟩
          · exact ih .en (k + 1) acc (o + 1) (by omega) ha
        · split
          · rename_i v hv
            have l1 := hN.lt (k := k) fun h => by rw [h, hV0] at hv; cases hv
            exact ⟨put_gn ha ⟨by simp, by simp, hV _ _ hv⟩, by show k + 1 ≤ L; omega⟩
          · exact col_ok hN (fun k acc => ih .ex k acc (o + 1)) k acc o hk ha
    | en =>
      have h1 := ih .ex k acc o hk ha
      unfold rdx
      split
      · split
        · rename_i h2
          have l2 := hN.eq h2
          exact ⟨h1.1, by show (rdx N V M n .ex k acc o).2.1 + 1 ≤ L; omega⟩
        · exact h1
      · exact h1
theorem vE_in (t : List UInt8) (v : Va) (h : vE t = some v) : vin v := by
  unfold vE at h
  split at h
  · cases h; exact ⟨⟨by decide, by decide⟩, ⟨by decide, by decide⟩⟩
  split at h
  · cases h; exact ⟨⟨by decide, by decide⟩, ⟨by decide, by decide⟩⟩
  split at h
  · cases h; exact ⟨⟨by decide, by decide⟩, ⟨by decide, by decide⟩⟩
  split at h
  · rename_i hl
    unfold dpv at h
    split at h
    · rename_i hc
      cases h
      refine ⟨(tlv_kind t).2, ?_⟩
      have hvr : vr (tlv t).1 = true := by
        cases hv : vr (tlv t).1 with
        | true => rfl
        | false =>
          have := hc.2
          unfold pv at this
          rw [hv, if_neg (by simp)] at this
          rw [← this] at hl
          cases hl
      have hok := (vr_iff _).1 hvr
      unfold vok at hok
      rcases hok with h | h | h | h | h | h <;> omega
    · cases h
  · cases h
end Go.Proofs.YtclhmmgdhagloaaGreatDoor
