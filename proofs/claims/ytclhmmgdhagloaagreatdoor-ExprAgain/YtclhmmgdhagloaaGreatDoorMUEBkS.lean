/-
  The document's Reserved, Free and literal.
  The document's literal and operands of a node.
  The document's operands of a node.
  The document's operands of a node, whole.
  The document's depth of nodes, and whether they are an expression.
  What is printed is read back: an expression's text has its tokens; what stands on the stack is expressions.
  What is printed is read back: what a right list of nodes is printed as is an expression's text.
-/
import Derived.Test.YtclhmmgdhagloaaGreatDoorEFit
import Derived.Test.YtclhmmgdhagloaaGreatDoorMtVFrm3
import Derived.Test.YtclhmmgdhagloaaGreatDoorEDep
import Derived.Test.YtclhmmgdhagloaaGreatDoorMaLJumps
import Derived.Test.YtclhmmgdhagloaaGreatDoorEBkU
import Derived.Test.YtclhmmgdhagloaaGreatDoorMREBkL
namespace Go.Proofs.YtclhmmgdhagloaaGreatDoor
open Go.RowKit Go.Shelf
attribute [local go_sem] cell?_more frozen?_more setCell_more more_lt more_more more_drew more_drewN setCell_drewN alloc_drewN

end Go.Proofs.YtclhmmgdhagloaaGreatDoor

namespace Go.Proofs.YtclhmmgdhagloaaGreatDoor
open Go.RowKit Go.Shelf
attribute [local go_sem] cell?_more frozen?_more setCell_more more_lt more_more more_drew more_drewN setCell_drewN alloc_drewN

end Go.Proofs.YtclhmmgdhagloaaGreatDoor

namespace Go.Proofs.YtclhmmgdhagloaaGreatDoor
open Go.RowKit Go.Shelf
attribute [local go_sem] cell?_more frozen?_more setCell_more more_lt more_more more_drew more_drewN setCell_drewN alloc_drewN

end Go.Proofs.YtclhmmgdhagloaaGreatDoor

namespace Go.Proofs.YtclhmmgdhagloaaGreatDoor
open Go.RowKit Go.Shelf
attribute [local go_sem] cell?_more frozen?_more setCell_more more_lt more_more more_drew more_drewN setCell_drewN alloc_drewN

end Go.Proofs.YtclhmmgdhagloaaGreatDoor

namespace Go.Proofs.YtclhmmgdhagloaaGreatDoor
open Go.RowKit Go.Shelf
attribute [local go_sem] cell?_more frozen?_more setCell_more more_lt more_more more_drew more_drewN setCell_drewN alloc_drewN

def mxL (l : List Nat) : Nat := l.foldr max 0
theorem maxD_aux (ds : List Nat) : ∀ m, 1 ≤ m → ds.foldl (fun m d => max m (d + 1)) m = max m (mxL ds + 1) := by
  induction ds with
  | nil => intro m hm; show m = max m 1; omega
  | cons d ds ih =>
    intro m hm
    show ds.foldl (fun m d => max m (d + 1)) (max m (d + 1)) = max m (max d (mxL ds) + 1)
    rw [ih _ (by omega)]
    omega
theorem maxD_mx (ds : List Nat) : maxD ds = mxL ds + 1 := by
  unfold maxD
  rw [maxD_aux ds 1 (Nat.le_refl _)]
  omega
def dpV : Option (List Nat) → Nat
  | some [d] => d
  | _ => 0
end Go.Proofs.YtclhmmgdhagloaaGreatDoor

namespace Go.Proofs.YtclhmmgdhagloaaGreatDoor

theorem name_word {nm : List UInt8} (h : nameL nm = true) : wordL nm = true := by
  unfold nameL at h
  rw [Bool.and_eq_true] at h
  exact h.1
theorem lx40 : Lx (fun _ => True) [40] [(2, [40])] := Lx.sign 40 (by decide) (by decide) (by decide) (by decide) (by decide) (by decide) (by decide)
theorem lx41 : Lx (fun _ => True) [41] [(2, [41])] := Lx.sign 41 (by decide) (by decide) (by decide) (by decide) (by decide) (by decide) (by decide)
theorem lx44 : Lx (fun _ => True) [44] [(2, [44])] := Lx.sign 44 (by decide) (by decide) (by decide) (by decide) (by decide) (by decide) (by decide)
theorem lx45 : Lx (fun _ => True) [45] [(2, [45])] := Lx.sign 45 (by decide) (by decide) (by decide) (by decide) (by decide) (by decide) (by decide)
theorem lx46 : Lx (fun _ => True) [46] [(2, [46])] := Lx.sign 46 (by decide) (by decide) (by decide) (by decide) (by decide) (by decide) (by decide)
theorem brk32 (r : List UInt8) : Brk (32 :: r) := .inr ⟨32, r, rfl, .inl rfl⟩
theorem brk41 (r : List UInt8) : Brk (41 :: r) := .inr ⟨41, r, rfl, .inr (.inl rfl)⟩
theorem brk44 (r : List UInt8) : Brk (44 :: r) := .inr ⟨44, r, rfl, .inr (.inr rfl)⟩
theorem wend40 (r : List UInt8) : WEnd (40 :: r) := .inr ⟨40, r, rfl, by decide⟩
theorem wend46 (r : List UInt8) : WEnd (46 :: r) := .inr ⟨46, r, rfl, by decide⟩

theorem lx_args : ∀ ax : List (List Nd × List UInt8 × List Kt), (∀ a ∈ ax, Lx Brk a.2.1 a.2.2) → Lx (fun _ => True) (Lib.join (ax.map (·.2.1)) [44, 32] ++ [41]) (argT (ax.map (·.2.2)))
  | [], _ => by
    rw [List.map_nil, List.map_nil, show Lib.join [] [44, 32] = [] by simp [Lib.join, List.intercalate]]
    exact lx41
  | [a], h => by
    show Lx _ (Lib.join [a.2.1] [44, 32] ++ [41]) (a.2.2 ++ [(2, [41])])
    rw [show Lib.join [a.2.1] [44, 32] = a.2.1 by simp [Lib.join, List.intercalate]]
    exact (h a (by simp)).app lx41 (fun r _ => brk41 r)
  | a :: b :: r, h => by
    show Lx _ (Lib.join (a.2.1 :: b.2.1 :: r.map (·.2.1)) [44, 32] ++ [41]) (a.2.2 ++ (2, [44]) :: argT ((b :: r).map (·.2.2)))
    have e : Lib.join (a.2.1 :: b.2.1 :: r.map (·.2.1)) [44, 32] ++ [41] = a.2.1 ++ ([44] ++ ([32] ++ (Lib.join ((b :: r).map (·.2.1)) [44, 32] ++ [41]))) := by
      simp [Lib.join, List.intercalate, List.intersperse]
    rw [e]
    have ih := lx_args (b :: r) (fun x hx => h x (by simp at hx ⊢; exact Or.inr hx))
    have h1 := Lx.blank.app ih (fun _ _ => trivial)
    have h2 := lx44.app h1 (fun _ _ => trivial)
    exact (h a (by simp)).app h2 (fun r _ => brk44 _)

theorem tr_lex {V : List UInt8 → Option Va} {l : List Nd} {t : List UInt8} {s : List Kt} {d : Nat} (h : Tr V l t s d) : Lx Brk t s := by
  induction h with
  | val v T kk d h1 h6 h7 h2 h3 h5 h4 => exact h6
  | col1 nm d h1 h2 => exact (Lx.word nm (name_word h1)).mono (fun _ h => h.word)
  | col2 tb nm d h1 h2 h3 =>
    rw [List.append_assoc]
    exact (Lx.word tb (name_word h1)).app (lx46.app ((Lx.word nm (name_word h3)).mono (fun _ h => h.word)) (fun _ _ => trivial)) (fun r _ => wend46 _)
  | neg l t s d htr ih =>
    have h1 := (lx40.app (lx45.app (Lx.blank.app (ih.app (lx41.mono (Q := Brk) (fun _ _ => trivial)) (fun r _ => brk41 r)) (fun _ _ => trivial)) (fun _ _ => trivial)) (fun _ _ => trivial))
    simpa using h1
  | nt l t s d htr ih =>
    have h1 := (lx40.app ((Lx.word wNot (by decide)).app (Lx.blank.app (ih.app (lx41.mono (Q := Brk) (fun _ _ => trivial)) (fun r _ => brk41 r)) (fun _ _ => trivial)) (fun r _ => (brk32 _).word)) (fun _ _ => trivial))
    simpa using h1
  | isn l t s d htr ih =>
    have h1 := (lx40.app (ih.app (Lx.blank.app ((Lx.word wIs (by decide)).app (Lx.blank.app ((Lx.word wNull (by decide)).app (lx41.mono (Q := Brk) (fun _ _ => trivial)) (fun r _ => (brk41 r).word)) (fun _ _ => trivial)) (fun r _ => (brk32 _).word)) (fun _ _ => trivial)) (fun r _ => brk32 _)) (fun _ _ => trivial))
    simpa using h1
  | bin op l1 l2 t1 t2 s1 s2 d h6 h18 htr1 htr2 ih1 ih2 =>
    have h1 := (lx40.app (ih1.app (Lx.blank.app ((Lx.op op h6 h18).app (Lx.blank.app (ih2.app (lx41.mono (Q := Brk) (fun _ _ => trivial)) (fun r _ => brk41 r)) (fun _ _ => trivial)) (fun r _ => brk32 _)) (fun _ _ => trivial)) (fun r _ => brk32 _)) (fun _ _ => trivial))
    simpa [op2] using h1
  | call nm ax d h1 h2 h4 hax ih =>
    have h3 := ((Lx.word nm (name_word h1)).app (lx40.app (lx_args ax ih) (fun _ _ => trivial)) (fun r _ => wend40 _)).mono (Q := Brk) (fun _ _ => trivial)
    simpa using h3

/-- Each token is a sign, a word or a literal. -/
def Tok1 (T : List UInt8) : Prop := T = [40] ∨ T = [41] ∨ T = [44] ∨ T = [45] ∨ T = [46] ∨ (∃ op, 6 ≤ op ∧ op ≤ 18 ∧ T = sgn op) ∨ wordL T = true ∨ litH T
theorem argT_mem : ∀ (ss : List (List Kt)) (x : Kt), x ∈ argT ss → x = (2, [41]) ∨ x = (2, [44]) ∨ ∃ s ∈ ss, x ∈ s
  | [], x, h => by simp [argT] at h; exact .inl h
  | [s], x, h => by
    simp [argT] at h
    rcases h with h | h
    · exact .inr (.inr ⟨s, by simp, h⟩)
    · exact .inl h
  | s :: b :: r, x, h => by
    have h' : x ∈ s ++ (2, [44]) :: argT (b :: r) := h
    rcases List.mem_append.1 h' with h | h
    · exact .inr (.inr ⟨s, by simp, h⟩)
    rcases List.mem_cons.1 h with h | h
    · exact .inr (.inl h)
    · rcases argT_mem (b :: r) x h with h | h | ⟨s', h1, h2⟩
      · exact .inl h
      · exact .inr (.inl h)
      · exact .inr (.inr ⟨s', by simp at h1 ⊢; exact .inr h1, h2⟩)
theorem tr_tok {V : List UInt8 → Option Va} {l : List Nd} {t : List UInt8} {s : List Kt} {d : Nat} (h : Tr V l t s d) : ∀ x ∈ s, Tok1 x.2 := by
  have w : ∀ T, wordL T = true → Tok1 T := fun T h => .inr (.inr (.inr (.inr (.inr (.inr (.inl h))))))
  have a40 : Tok1 [40] := .inl rfl
  have a41 : Tok1 [41] := .inr (.inl rfl)
  have a44 : Tok1 [44] := .inr (.inr (.inl rfl))
  have a45 : Tok1 [45] := .inr (.inr (.inr (.inl rfl)))
  have a46 : Tok1 [46] := .inr (.inr (.inr (.inr (.inl rfl))))
  induction h with
  | val v T kk d h1 h6 h7 h2 h3 h5 h4 =>
    intro x hx
    obtain rfl : x = (kk, T) := by simpa using hx
    rcases h7 with h | h
    · exact .inr (.inr (.inr (.inr (.inr (.inr (.inr h))))))
    · exact w T h
  | col1 nm d h1 h2 =>
    intro x hx
    obtain rfl : x = (1, nm) := by simpa using hx
    exact w nm (name_word h1)
  | col2 tb nm d h1 h2 h3 =>
    intro x hx
    simp at hx
    rcases hx with rfl | rfl | rfl
    · exact w tb (name_word h1)
    · exact a46
    · exact w nm (name_word h3)
  | neg l t s d htr ih =>
    intro x hx
    simp at hx
    rcases hx with rfl | rfl | hx | rfl
    · exact a40
    · exact a45
    · exact ih x hx
    · exact a41
  | nt l t s d htr ih =>
    intro x hx
    simp at hx
    rcases hx with rfl | rfl | hx | rfl
    · exact a40
    · exact w _ (by decide)
    · exact ih x hx
    · exact a41
  | isn l t s d htr ih =>
    intro x hx
    simp at hx
    rcases hx with rfl | hx | rfl | rfl | rfl
    · exact a40
    · exact ih x hx
    · exact w _ (by decide)
    · exact w _ (by decide)
    · exact a41
  | bin op l1 l2 t1 t2 s1 s2 d h6 h18 htr1 htr2 ih1 ih2 =>
    intro x hx
    simp at hx
    rcases hx with rfl | hx | rfl | hx | rfl
    · exact a40
    · exact ih1 x hx
    · exact .inr (.inr (.inr (.inr (.inr (.inl ⟨op, h6, h18, rfl⟩)))))
    · exact ih2 x hx
    · exact a41
  | call nm ax d h1 h2 h4 hax ih =>
    intro x hx
    simp at hx
    rcases hx with rfl | rfl | hx
    · exact w nm (name_word h1)
    · exact a40
    · rcases argT_mem _ _ hx with rfl | rfl | ⟨s', h5, h6⟩
      · exact a41
      · exact a44
      · obtain ⟨a, ha, rfl⟩ := List.mem_map.1 h5
        exact ih a ha x h6
end Go.Proofs.YtclhmmgdhagloaaGreatDoor

namespace Go.Proofs.YtclhmmgdhagloaaGreatDoor

/-- What is asked of the value of a literal's text. -/
def LitOk (V : List UInt8 → Option Va) (v : Va) : Prop := ∃ kk : Int, V (pvl v) = some v ∧ Lx Brk (pvl v) [(kk, pvl v)] ∧ (litH (pvl v) ∨ wordL (pvl v) = true) ∧ (pvl v == [45]) = false ∧ (pvl v == [40]) = false ∧ (pvl v == [41]) = false ∧ (pvl v == wNot) = false
abbrev Ent := List Nd × List UInt8 × List Kt

theorem node_tr {V : List UInt8 → Option Va} (HN : ∀ nm, nameL nm = true → V nm = none) (x : Nd) (hm : mayN x = true) (ax : List Ent) (hl : (ax.length : Int) = opsN x) (d : Nat) (ht : ∀ e ∈ ax, Tr V e.1 e.2.1 e.2.2 d) (hv : x.o = 1 → LitOk V x.v) :
    ∃ s, Tr V ((ax.map (·.1)).flatten ++ [x]) (txtN pvl x (ax.map (·.2.1))) s (d + 1) := by
  have hm' := hm
  unfold mayN at hm
  rw [Bool.and_eq_true] at hm
  have he := sameN_eq.1 hm.1
  have hf := hm.2
  obtain ⟨xo, xt, xn, xv, xa⟩ := x
  unfold namedN at he
  unfold fitN at hf
  unfold opsN at hl
  dsimp only at he hf hl hv
  unfold txtN
  dsimp only
  by_cases h1 : xo = 1
  · subst h1
    rw [if_pos rfl] at he ⊢
    rw [if_neg (by decide), if_neg (by decide), if_neg (by decide)] at hl
    obtain rfl : ax = [] := List.eq_nil_of_length_eq_zero (by omega)
    obtain ⟨kk, a1, a2, a3, a4, a5, a6, a7⟩ := hv rfl
    simp only [Nd.mk.injEq] at he
    obtain ⟨_, rfl, rfl, _, rfl⟩ := he
    exact ⟨_, .val xv (pvl xv) kk (d + 1) a1 a2 a3 a4 a5 a6 a7⟩
  rw [if_neg h1] at he hf ⊢
  by_cases h2 : xo = 2
  · subst h2
    rw [if_pos rfl] at he hf ⊢
    rw [if_neg (by decide), if_neg (by decide), if_neg (by decide)] at hl
    obtain rfl : ax = [] := List.eq_nil_of_length_eq_zero (by omega)
    simp only [Nd.mk.injEq] at he
    obtain ⟨_, _, _, rfl, rfl⟩ := he
    rw [Bool.and_eq_true, Bool.or_eq_true] at hf
    unfold colT
    dsimp only
    by_cases h0 : xt = []
    · subst h0
      rw [if_pos rfl]
      exact ⟨_, .col1 xn (d + 1) hf.1 (HN xn hf.1)⟩
    · rw [if_neg h0]
      have hnt : nameL xt = true := by
        rcases hf.2 with h | h
        · exact absurd (by simpa using h) h0
        · exact h
      exact ⟨_, .col2 xt xn (d + 1) hnt (HN xt hnt) hf.1⟩
  rw [if_neg h2] at he hf ⊢
  by_cases h19 : xo = 19
  · subst h19
    rw [if_pos rfl] at he hf hl
    rw [if_neg (by decide), if_neg (by decide), if_neg (by decide), if_pos rfl]
    simp only [Nd.mk.injEq] at he
    obtain ⟨_, rfl, _, rfl, _⟩ := he
    simp only [Bool.and_eq_true, decide_eq_true_eq] at hf
    subst hl
    exact ⟨_, .call xn ax d hf.1 (HN xn hf.1) (by omega) ht⟩
  rw [if_neg h19] at he hf hl
  simp only [Nd.mk.injEq] at he
  obtain ⟨_, rfl, rfl, rfl, rfl⟩ := he
  simp only [Bool.and_eq_true, decide_eq_true_eq] at hf
  obtain ⟨op, rfl⟩ : ∃ op : Nat, xo = (op : Int) := ⟨xo.toNat, by omega⟩
  by_cases h6 : 6 ≤ op
  · rw [if_pos (by omega)] at hl
    rw [if_neg (by omega), if_neg (by omega), if_neg (by omega), if_neg (by omega)]
    match ax, hl, ht with
    | [a, b], _, ht =>
      have ta := ht a (by simp)
      have tb := ht b (by simp)
      have h := Tr.bin op a.1 b.1 a.2.1 b.2.1 a.2.2 b.2.2 d h6 (by omega) ta tb
      have e1 : parT [([a, b].map (·.2.1)).getD 0 [], sgn (op : Int).toNat, ([a, b].map (·.2.1)).getD 1 []] = [40] ++ a.2.1 ++ [32] ++ sgn op ++ [32] ++ b.2.1 ++ [41] := by simp [parT, Lib.join, List.intercalate, List.intersperse]
      have e2 : (([a, b].map (·.1)).flatten ++ [(⟨(op : Int), [], [], vz0, 0⟩ : Nd)]) = a.1 ++ b.1 ++ [opX op] := by simp [opX]
      rw [e1, e2]
      exact ⟨_, h⟩
  · rw [if_neg (by omega), if_pos (by omega)] at hl
    match ax, hl, ht with
    | [a], _, ht =>
      have ta := ht a (by simp)
      have e2 : (([a].map (·.1)).flatten ++ [(⟨(op : Int), [], [], vz0, 0⟩ : Nd)]) = a.1 ++ [opX op] := by simp [opX]
      rw [e2]
      have hop : op = 3 ∨ op = 4 ∨ op = 5 := by omega
      rcases hop with rfl | rfl | rfl
      · rw [if_pos (by decide)]
        have e1 : parT [[45], ([a].map (·.2.1)).getD 0 []] = [40, 45, 32] ++ a.2.1 ++ [41] := by simp [parT, Lib.join, List.intercalate, List.intersperse]
        rw [e1]
        exact ⟨_, .neg a.1 a.2.1 a.2.2 d ta⟩
      · rw [if_neg (by decide), if_pos (by decide)]
        have e1 : parT [wNot, ([a].map (·.2.1)).getD 0 []] = [40, 110, 111, 116, 32] ++ a.2.1 ++ [41] := by simp [parT, Lib.join, List.intercalate, List.intersperse]
        rw [e1]
        exact ⟨_, .nt a.1 a.2.1 a.2.2 d ta⟩
      · rw [if_neg (by decide), if_neg (by decide), if_pos (by decide)]
        have e1 : parT [([a].map (·.2.1)).getD 0 [], wIs, wNull] = [40] ++ a.2.1 ++ [32, 105, 115, 32, 110, 117, 108, 108, 41] := by simp [parT, Lib.join, List.intercalate, List.intersperse]
        rw [e1]
        exact ⟨_, .isn a.1 a.2.1 a.2.2 d ta⟩

theorem run_tr {V : List UInt8 → Option Va} (HN : ∀ nm, nameL nm = true → V nm = none) : ∀ (l : List Nd) (S : List (Ent × Nat)) (r : List Nat), (∀ x ∈ l, mayN x = true → x.o = 1 → LitOk V x.v) → (∀ e ∈ S, Tr V e.1.1 e.1.2.1 e.1.2.2 e.2) → runD mayN l (S.map (·.2)) = some r →
    ∃ S' : List (Ent × Nat), S'.map (·.2) = r ∧ S'.map (·.1.2.1) = runT pvl l (S.map (·.1.2.1)) ∧ (S'.map (·.1.1)).flatten = (S.map (·.1.1)).flatten ++ l ∧ (∀ e ∈ S', Tr V e.1.1 e.1.2.1 e.1.2.2 e.2) := by
  intro l
  induction l with
  | nil =>
    intro S r _ hS hr
    unfold runD at hr
    exact ⟨S, Option.some.inj hr, rfl, by simp, hS⟩
  | cons x l ih =>
    intro S r hv hS hr
    unfold runD at hr
    cases hs : stepD mayN (S.map (·.2)) x with
    | none => rw [hs] at hr; cases hr
    | some st' =>
      rw [hs] at hr
      unfold stepD at hs
      split at hs
      case isFalse => cases hs
      case isTrue hc =>
        obtain ⟨hmx, hox⟩ := hc
        rw [List.length_map] at hox
        have hst := Option.some.inj hs
        have hops := mayN_ops x hmx
        obtain ⟨q, hq⟩ : ∃ q : Nat, opsN x = (q : Int) := ⟨(opsN x).toNat, by omega⟩
        rw [hq] at hox
        rw [hq, Int.toNat_natCast, List.length_map] at hst
        obtain ⟨f, hf⟩ : ∃ f, f = S.length - q := ⟨_, rfl⟩
        rw [← hf] at hst
        have hdl : (S.drop f).length = q := by rw [List.length_drop]; omega
        have hmxl : ∀ e ∈ S.drop f, e.2 ≤ mxL ((S.drop f).map (·.2)) := by
          intro e he
          have : ∀ (ds : List Nat) (y : Nat), y ∈ ds → y ≤ mxL ds := by
            intro ds
            induction ds with
            | nil => intro y h; cases h
            | cons a ds ih2 =>
              intro y h
              show y ≤ max a (mxL ds)
              rcases List.mem_cons.1 h with rfl | h
              · omega
              · have := ih2 y h; omega
          exact this _ _ (List.mem_map_of_mem he)
        obtain ⟨s, hs'⟩ := node_tr HN x hmx ((S.drop f).map (·.1)) (by rw [List.length_map, hdl, hq]) (mxL ((S.drop f).map (·.2))) (fun e he => by
          obtain ⟨e', he', rfl⟩ := List.mem_map.1 he
          exact (hS e' (List.mem_of_mem_drop he')).lift (hmxl e' he')) (hv x (by simp) hmx)
        rw [List.map_map, List.map_map] at hs'
        have hnew : ∀ e ∈ S.take f ++ [(((((S.drop f).map (·.1.1)).flatten ++ [x]), txtN pvl x ((S.drop f).map (·.1.2.1)), s), mxL ((S.drop f).map (·.2)) + 1)], Tr V e.1.1 e.1.2.1 e.1.2.2 e.2 := by
          intro e he
          rcases List.mem_append.1 he with h | h
          · exact hS e (List.mem_of_mem_take h)
          · obtain rfl := List.mem_singleton.1 h
            exact hs'
        have hst2 : (S.take f ++ [(((((S.drop f).map (·.1.1)).flatten ++ [x]), txtN pvl x ((S.drop f).map (·.1.2.1)), s), mxL ((S.drop f).map (·.2)) + 1)]).map (·.2) = st' := by
          rw [← hst, maxD_mx]
          simp [List.map_take, List.map_drop]
        rw [← hst2] at hr
        obtain ⟨S', r1, r2, r3, r4⟩ := ih _ r (fun y hy => hv y (by simp [hy])) hnew hr
        refine ⟨S', r1, ?_, ?_, r4⟩
        · rw [r2]
          show runT pvl l _ = runT pvl l (stepT pvl (S.map (·.1.2.1)) x)
          unfold stepT
          rw [hq, Int.toNat_natCast, List.length_map, ← hf]
          simp [List.map_take, List.map_drop]
        · rw [r3]
          simp only [List.map_append, List.map_take, List.map_drop, List.map_cons, List.map_nil, List.flatten_append, List.flatten_cons, List.flatten_nil, List.append_nil, List.append_assoc, List.cons_append, List.nil_append]
          rw [← List.append_assoc, ← List.flatten_append, List.take_append_drop]
theorem dep_val2 (l : List Nd) (h : 0 < depN mayN l) : l.length ≤ 256 ∧ dpV (runD mayN l []) ≤ 16 := by
  unfold depN at h
  split at h
  case isFalse => omega
  case isTrue hl =>
    refine ⟨hl, ?_⟩
    unfold depO at h
    split at h
    · rename_i d hd
      rw [hd]
      show d ≤ 16
      split at h
      · assumption
      · omega
    · omega
theorem tr_of {V : List UInt8 → Option Va} (HN : ∀ nm, nameL nm = true → V nm = none) (l : List Nd) (hv : ∀ x ∈ l, mayN x = true → x.o = 1 → LitOk V x.v) (hd : 0 < depN mayN l) : ∃ s d, Tr V l (prtN pvl l) s d ∧ d ≤ 16 ∧ l.length ≤ 256 := by
  obtain ⟨h256, he⟩ := dep_val2 l hd
  obtain ⟨_, d, hrun⟩ := depN_some hd
  obtain ⟨S', r1, r2, r3, r4⟩ := run_tr HN l [] [d] hv (fun e he => by cases he) hrun
  obtain ⟨e, rfl⟩ : ∃ e, S' = [e] := by
    match S', r1 with
    | [e], _ => exact ⟨e, rfl⟩
  have ht := r4 e (by simp)
  have hd' : e.2 = d := by simpa using r1
  have hl : e.1.1 = l := by simpa using r3
  refine ⟨e.1.2.2, d, ?_, ?_, h256⟩
  · unfold prtN
    rw [if_pos hd]
    have e2 : runT pvl l [] = [e.1.2.1] := by simpa using r2.symm
    rw [e2]
    rw [hl, hd'] at ht
    exact ht
  · rw [hrun] at he
    exact he
end Go.Proofs.YtclhmmgdhagloaaGreatDoor
