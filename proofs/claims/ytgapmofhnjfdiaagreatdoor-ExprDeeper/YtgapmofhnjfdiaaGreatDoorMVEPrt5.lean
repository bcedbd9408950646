/-
  The contract of textOf of package expr: a call of nothing, out of no texts at all; all arms.
  The contract of expr.Print: the walk over the nodes with a stack of texts.
-/
import Derived.Test.YtgapmofhnjfdiaaGreatDoorEPrt3
namespace Go.Proofs.YtgapmofhnjfdiaaGreatDoor
open Go.RowKit Go.Shelf
attribute [local go_sem] cell?_more frozen?_more setCell_more more_lt more_more more_drew more_drewN setCell_drewN alloc_drewN

set_option maxHeartbeats 4000000 in
theorem join_nil (c : Nat) (sep : ByteArray) (w : World) : Calls Tryz.prog 100 #[.slice none 0 c, .string sep] w fun e w' => e = .returned (.string ⟨#[]⟩) ∧ Below w.heap.size w w' := by
  go_enter Tryz.func100, Tryz.ntmps100
  go_wp2
  go_ret
  exact ⟨rfl, Below.refl _ _⟩

/-- Texts lie behind a slice's address, which may be none where there are none. -/
def Sws (w : World) (ao : Option Addr) (c : Nat) (of : List (List UInt8)) : Prop :=
  (ao = none ∧ of = []) ∨ ∃ g off, ao = some ⟨g, off, none⟩ ∧ g < w.heap.size ∧ of.length ≤ c ∧ Sw w g off of

theorem textOf_any (pv : Va → List UInt8) (x : Nd) (ao : Option Addr) (c : Nat) (of : List (List UInt8)) (w : World) (hm : mayN x = true) (hl : (of.length : Int) = opsN x) (hs : Sws w ao c of) (hS : Sg w)
    (hb : ∀ t ∈ of, t.length ≤ 10000000000000) (ht : x.t.length ≤ 10000000000000) (hn : x.n.length ≤ 10000000000000)
    (P : x.o = 1 → ∀ W, Below w.heap.size w W → Calls Tryz.prog 97 #[vv x.v] W fun e w' => e = .returned (.string ⟨(pv x.v).toArray⟩) ∧ Below W.heap.size W w') :
    Calls Tryz.prog 41 #[ndv x, .slice ao of.length c] w fun e w' => e = .returned (.string ⟨(txtN pv x of).toArray⟩) ∧ Below w.heap.size w w' := by
  by_cases h1 : x.o = 1
  · exact textOf_val pv x ao _ c of w h1 (P h1)
  by_cases h2 : x.o = 2
  · exact textOf_col pv x ao _ c of w h2 ht hn
  have hf : fitN x = true := by unfold mayN at hm; rw [Bool.and_eq_true] at hm; exact hm.2
  unfold fitN at hf
  rw [if_neg h1, if_neg h2] at hf
  unfold opsN at hl
  by_cases h3 : x.o = 19
  · rw [if_pos h3] at hf hl
    simp only [Bool.and_eq_true, decide_eq_true_eq] at hf
    have hJ : (Lib.join of [44, 32]).length ≤ 100000000000000 := by
      have h4 : of.length ≤ 4 := by omega
      match of, h4, hb with
      | [], _, _ => simp [Lib.join, List.intercalate, List.intersperse]
      | [a], _, hb => have := hb a (by simp); simp [Lib.join, List.intercalate, List.intersperse]; omega
      | [a, b], _, hb => have := hb a (by simp); have := hb b (by simp); simp [Lib.join, List.intercalate, List.intersperse]; omega
      | [a, b, d], _, hb => have := hb a (by simp); have := hb b (by simp); have := hb d (by simp); simp [Lib.join, List.intercalate, List.intersperse]; omega
      | [a, b, d, e], _, hb => have := hb a (by simp); have := hb b (by simp); have := hb d (by simp); have := hb e (by simp); simp [Lib.join, List.intercalate, List.intersperse]; omega
    refine textOf_call pv x ao _ c of w h3 hn hJ ?_
    rcases hs with ⟨rfl, rfl⟩ | ⟨g, off, rfl, hg, hc, hs⟩
    · exact fun W _ => join_nil c _ W
    · exact join_at g off c of w hs hg (by omega) hc hJ
  rw [if_neg h3] at hf hl
  simp only [Bool.and_eq_true, decide_eq_true_eq] at hf
  by_cases h6 : 6 ≤ x.o
  · rw [if_pos h6] at hl
    obtain ⟨a, b, rfl⟩ : ∃ a b, of = [a, b] := by
      match of, hl with
      | [a, b], _ => exact ⟨a, b, rfl⟩
      | [], hl => simp at hl
      | [_], hl => simp at hl
      | _ :: _ :: _ :: _, hl => simp at hl; omega
    rcases hs with ⟨_, h⟩ | ⟨g, off, rfl, hg, hc, hs⟩
    · cases h
    · exact textOf_two pv x x.o.toNat g off c a b w (by omega) (by omega) (by omega) hs (hb a (by simp)) (hb b (by simp)) hS
  · rw [if_neg h6, if_pos hf.1] at hl
    obtain ⟨a, rfl⟩ : ∃ a, of = [a] := by
      match of, hl with
      | [a], _ => exact ⟨a, rfl⟩
      | [], hl => simp at hl
      | _ :: _ :: _, hl => simp at hl; omega
    rcases hs with ⟨_, h⟩ | ⟨g, off, rfl, hg, hc, hs⟩
    · cases h
    · exact textOf_one pv x g off c a w (by omega) hs (hb a (by simp))
end Go.Proofs.YtgapmofhnjfdiaaGreatDoor

namespace Go.Proofs.YtgapmofhnjfdiaaGreatDoor
open Go.RowKit Go.Shelf
attribute [local go_sem] cell?_more frozen?_more setCell_more more_lt more_more more_drew more_drewN setCell_drewN alloc_drewN

/-- One step of the stack of texts. -/
def stepT (pv : Va → List UInt8) (st : List (List UInt8)) (x : Nd) : List (List UInt8) := st.take (st.length - (opsN x).toNat) ++ [txtN pv x (st.drop (st.length - (opsN x).toNat))]
def runT (pv : Va → List UInt8) : List Nd → List (List UInt8) → List (List UInt8)
  | [], st => st
  | x :: l, st => runT pv l (stepT pv st x)
/-- What Print answers. -/
def prtN (pv : Va → List UInt8) (l : List Nd) : List UInt8 := if 0 < depN mayN l then (runT pv l []).headD [] else []

def sv (ts : List (List UInt8)) : List Value := ts.map fun t => .string ⟨t.toArray⟩
theorem sv_len (ts : List (List UInt8)) : (sv ts).length = ts.length := by simp [sv]
/-- A stack of texts of one's own. -/
abbrev Ts (w : World) (base : Nat) (v : Value) (ts : List (List UInt8)) : Prop := w.ownsRow base 9 1 v ts.length (sv ts)
theorem Ts.shape {w : World} {base : Nat} {v : Value} {ts : List (List UInt8)} (h : Ts w base v ts) :
    ∃ ao cap, v = .slice ao ts.length cap ∧ ts.length ≤ cap ∧ (ao = none → ts = [] ∧ cap = 0) ∧ (∀ f, f ≤ ts.length → Ts w base (.slice ao f cap) (ts.take f)) ∧ (∀ a, ao = some a → ∃ g, a = ⟨g, 0, none⟩ ∧ base ≤ g ∧ g < w.heap.size ∧ ∀ i (h : i < ts.length), w.cell? ⟨g, i, none⟩ = some (.string ⟨ts[i].toArray⟩)) := by
  obtain ⟨h1, h2⟩ := h
  rcases h2 with ⟨rfl, hn⟩ | ⟨g, cap, cur, rfl, hb, hg, hnc, hcm, hcs, htake⟩
  · have : ts = [] := List.length_eq_zero_iff.1 hn
    subst this
    exact ⟨none, 0, rfl, Nat.le_refl _, fun _ => ⟨rfl, rfl⟩, fun f hf => by simp at hf; subst hf; exact World.ownsRow_nil _ _ _ _, fun a ha => by cases ha⟩
  · refine ⟨some ⟨g, 0, none⟩, cap, rfl, hnc, (fun h => by cases h), fun f hf => ?_, fun a ha => ?_⟩
    · have e : (ts.take f).length = f := by rw [List.length_take]; omega
      show w.ownsRow base _ 1 _ (ts.take f).length _
      rw [e]
      refine ⟨by rw [sv_len, e, Nat.mul_one], .inr ⟨g, cap, cur, rfl, hb, hg, by omega, hcm, hcs, ?_⟩⟩
      rw [Nat.mul_one] at htake ⊢
      have : cur.toList.take f = (cur.toList.take ts.length).take f := by rw [List.take_take, Nat.min_eq_left hf]
      rw [this, htake]
      simp [sv, List.map_take]
    · cases ha
      have hlt : g < w.heap.size := by
        rcases Nat.lt_or_ge g w.heap.size with h | h
        · exact h
        · rw [Array.getElem?_eq_none h] at hg; cases hg
      refine ⟨g, rfl, hb, hlt, fun i hi => ?_⟩
      have hc := cell_of_row w g i cur _ (0, 0) hg
      rw [hc]
      have h3 : cur[i]? = (cur.toList.take (ts.length * 1))[i]? := by
        rw [List.getElem?_take, if_pos (by omega)]; simp
      rw [h3, htake]
      simp [sv, hi]
theorem Ts.push' {w : World} {base n : Nat} {d : List UInt8} {v : Value} {ts : List (List UInt8)} (hl : ts.length = n) (h : w.ownsRow base 9 1 v (n + 1) (sv ts ++ [.string ⟨d.toArray⟩])) : Ts w base v (ts ++ [d]) := by
  subst hl
  show w.ownsRow _ _ _ _ (ts ++ [d]).length (sv (ts ++ [d]))
  have e1 : (ts ++ [d]).length = ts.length + 1 := by simp
  have e2 : sv (ts ++ [d]) = sv ts ++ [.string ⟨d.toArray⟩] := by simp [sv]
  rw [e1, e2]
  exact h
theorem Ts.later {w w' : World} {base : Nat} {v : Value} {ts : List (List UInt8)} (h : Ts w base v ts) (hb : Below w.heap.size w w') : Ts w' base v ts :=
  World.ownsRow.kept (row := none) h ⟨hb.os, hb.tape, hb.output, hb.size, fun k hk _ => hb.block k hk⟩ (by
    cases hv : v.ownBlock with
    | none => exact .inl rfl
    | some k => exact .inr (by simp))
theorem infoStr : (Tryz.prog.info? 9).map (fun i => (i.zero, i.size, i.bytes)) = some (some (.string ⟨#[]⟩), 1, 16) := by kernel_rfl

theorem one_str (t : List UInt8) : ∀ u ∈ [Value.string ⟨t.toArray⟩], u.oneCell' = true := by
  intro u hu
  simp at hu
  subst hu
  rfl

def sumT (ts : List (List UInt8)) : Nat := (ts.map List.length).sum
theorem sumT_app (a b : List (List UInt8)) : sumT (a ++ b) = sumT a + sumT b := by simp [sumT]
theorem sumT_mem {t : List UInt8} {ts : List (List UInt8)} (h : t ∈ ts) : t.length ≤ sumT ts := by
  induction ts with
  | nil => cases h
  | cons a ts ih =>
    have e : sumT (a :: ts) = a.length + sumT ts := rfl
    rcases List.mem_cons.1 h with rfl | h
    · omega
    · have := ih h; omega
theorem join_len (ts : List (List UInt8)) (s : List UInt8) : (Lib.join ts s).length ≤ sumT ts + ts.length * s.length := by
  unfold Lib.join
  induction ts with
  | nil => simp [List.intercalate]
  | cons a ts ih =>
    have e : sumT (a :: ts) = a.length + sumT ts := rfl
    cases ts with
    | nil => simp [List.intercalate, e] <;> omega
    | cons b ts =>
      have : (List.intercalate s (a :: b :: ts)) = a ++ s ++ List.intercalate s (b :: ts) := by simp [List.intercalate, List.intersperse]
      rw [this]
      simp only [List.length_append, List.length_cons] at ih ⊢
      rw [e, Nat.succ_mul]
      omega
theorem txtN_len (pv : Va → List UInt8) (x : Nd) (of : List (List UInt8)) (B : Nat) (hm : mayN x = true) (hl : (of.length : Int) = opsN x) (ht : x.t.length ≤ B) (hn : x.n.length ≤ B) (hp : (pv x.v).length ≤ B) : (txtN pv x of).length ≤ sumT of + (2 * B + 20) := by
  have h4 := (mayN_ops x hm).2
  have g0 : (of.getD 0 []).length ≤ sumT of := by
    cases of with
    | nil => simp
    | cons a r => exact sumT_mem (by simp)
  have g01 : (of.getD 0 []).length + (of.getD 1 []).length ≤ sumT of := by
    match of with
    | [] => simp
    | [a] => simp [sumT]
    | a :: b :: r => simp [sumT] <;> omega
  unfold txtN
  split
  · omega
  split
  · unfold colT; split <;> (simp; try omega)
  split
  · have := join_len [[45], of.getD 0 []] [32]
    simp only [parT, List.length_append, List.length_cons, List.length_nil, sumT, List.map_cons, List.map_nil, List.sum_cons, List.sum_nil] at this g0 ⊢
    omega
  split
  · have := join_len [wNot, of.getD 0 []] [32]
    have e : wNot.length = 3 := rfl
    simp only [parT, List.length_append, List.length_cons, List.length_nil, sumT, List.map_cons, List.map_nil, List.sum_cons, List.sum_nil] at this g0 ⊢
    omega
  split
  · have := join_len [of.getD 0 [], wIs, wNull] [32]
    have e : wIs.length = 2 := rfl
    have e : wNull.length = 4 := rfl
    simp only [parT, List.length_append, List.length_cons, List.length_nil, sumT, List.map_cons, List.map_nil, List.sum_cons, List.sum_nil] at this g0 ⊢
    omega
  split
  · have := join_len of [44, 32]
    simp only [List.length_append, List.length_cons, List.length_nil] at this ⊢
    omega
  · have := join_len [of.getD 0 [], sgn x.o.toNat, of.getD 1 []] [32]
    have e : (sgn x.o.toNat).length ≤ 3 := by
      by_cases h : x.o.toNat < 19
      · have : ∀ j, j < 19 → (sgn j).length ≤ 3 := by decide
        exact this _ h
      · have hf : fitN x = true := by unfold mayN at hm; rw [Bool.and_eq_true] at hm; exact hm.2
        unfold fitN at hf
        rw [if_neg (by omega), if_neg (by omega), if_neg (by omega)] at hf
        simp only [Bool.and_eq_true, decide_eq_true_eq] at hf
        omega
    simp only [parT, List.length_append, List.length_cons, List.length_nil, sumT, List.map_cons, List.map_nil, List.sum_cons, List.sum_nil] at this g01 ⊢
    omega

/-- Where an expression is right, each node finds what it is done with. -/
theorem runD_some {x : Nd} {l : List Nd} {st r : List Nat} (h : runD mayN (x :: l) st = some r) : mayN x = true ∧ opsN x ≤ (st.length : Int) ∧ ∃ st', st'.length = st.length - (opsN x).toNat + 1 ∧ runD mayN l st' = some r := by
  unfold runD at h
  cases hs : stepD mayN st x with
  | none => rw [hs] at h; cases h
  | some st' =>
    rw [hs] at h
    unfold stepD at hs
    split at hs
    case isFalse => cases hs
    case isTrue hc =>
      refine ⟨hc.1, hc.2, st', ?_, h⟩
      cases hs
      rw [List.length_append, List.length_take]
      simp
theorem depN_some {l : List Nd} (h : 0 < depN mayN l) : l.length ≤ 256 ∧ ∃ d, runD mayN l [] = some [d] := by
  unfold depN at h
  split at h
  case isFalse => omega
  case isTrue hl =>
    refine ⟨hl, ?_⟩
    unfold depO at h
    split at h
    · exact ⟨_, by assumption⟩
    · omega
end Go.Proofs.YtgapmofhnjfdiaaGreatDoor
