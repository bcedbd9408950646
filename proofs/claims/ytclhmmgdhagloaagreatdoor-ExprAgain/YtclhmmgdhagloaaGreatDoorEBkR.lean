/-
  What is printed is read back: the reading of tokens, with no program in it.
-/
import Derived.Test.YtclhmmgdhagloaaGreatDoorMREBkL
import Derived.Test.YtclhmmgdhagloaaGreatDoorMOEPrt5
namespace Go.Proofs.YtclhmmgdhagloaaGreatDoor

/-- Tokens, by their kinds and texts, stand at a place. -/
def Seg (N : Nat → Ti) (k : Nat) (s : List Kt) : Prop := ∀ j (h : j < s.length), (N (k + j)).k = s[j].1 ∧ (N (k + j)).t = s[j].2
theorem Seg.left {N : Nat → Ti} {k : Nat} {a b : List Kt} (h : Seg N k (a ++ b)) : Seg N k a := fun j hj => by
  have := h j (by simp; omega)
  rw [List.getElem_append_left hj] at this
  exact this
theorem Seg.right {N : Nat → Ti} {k : Nat} {a b : List Kt} (h : Seg N k (a ++ b)) : Seg N (k + a.length) b := fun j hj => by
  have := h (a.length + j) (by simp; omega)
  rw [List.getElem_append_right (by omega)] at this
  simpa [Nat.add_assoc] using this
theorem Seg.head {N : Nat → Ti} {k : Nat} {x : Kt} {b : List Kt} (h : Seg N k (x :: b)) : (N k).k = x.1 ∧ (N k).t = x.2 := h 0 (by simp)
theorem Seg.tail {N : Nat → Ti} {k : Nat} {x : Kt} {b : List Kt} (h : Seg N k (x :: b)) : Seg N (k + 1) b := fun j hj => by
  have := h (j + 1) (by simp; omega)
  simpa [Nat.add_assoc, Nat.add_comm 1 j] using this

def op2 (op : Nat) : Kt := (if op = 17 ∨ op = 18 then 1 else 2, sgn op)
/-- The tokens of arguments, up to the end of the call. -/
def argT : List (List Kt) → List Kt
  | [] => [(2, [41])]
  | [s] => s ++ [(2, [41])]
  | s :: r => s ++ (2, [44]) :: argT r

/-- An expression: its nodes, its text, its tokens; how deep at most. -/
inductive Tr (V : List UInt8 → Option Va) : List Nd → List UInt8 → List Kt → Nat → Prop
  | val (v : Va) (T : List UInt8) (kk : Int) (d : Nat) : V T = some v → Lx Brk T [(kk, T)] → (litH T ∨ wordL T = true) → (T == [45]) = false → (T == [40]) = false → (T == [41]) = false → (T == wNot) = false → Tr V [⟨1, [], [], v, 0⟩] T [(kk, T)] d
  | col1 (nm : List UInt8) (d : Nat) : nameL nm = true → V nm = none → Tr V [⟨2, [], nm, vz0, 0⟩] nm [(1, nm)] d
  | col2 (tb nm : List UInt8) (d : Nat) : nameL tb = true → V tb = none → nameL nm = true → Tr V [⟨2, tb, nm, vz0, 0⟩] (tb ++ [46] ++ nm) [(1, tb), (2, [46]), (1, nm)] d
  | neg (l : List Nd) (t : List UInt8) (s : List Kt) (d : Nat) : Tr V l t s d → Tr V (l ++ [opX 3]) ([40, 45, 32] ++ t ++ [41]) ((2, [40]) :: (2, [45]) :: (s ++ [(2, [41])])) (d + 1)
  | nt (l : List Nd) (t : List UInt8) (s : List Kt) (d : Nat) : Tr V l t s d → Tr V (l ++ [opX 4]) ([40, 110, 111, 116, 32] ++ t ++ [41]) ((2, [40]) :: (1, wNot) :: (s ++ [(2, [41])])) (d + 1)
  | isn (l : List Nd) (t : List UInt8) (s : List Kt) (d : Nat) : Tr V l t s d → Tr V (l ++ [opX 5]) ([40] ++ t ++ [32, 105, 115, 32, 110, 117, 108, 108, 41]) ((2, [40]) :: (s ++ [(1, wIs), (1, wNull), (2, [41])])) (d + 1)
  | bin (op : Nat) (l1 l2 : List Nd) (t1 t2 : List UInt8) (s1 s2 : List Kt) (d : Nat) : 6 ≤ op → op ≤ 18 → Tr V l1 t1 s1 d → Tr V l2 t2 s2 d → Tr V (l1 ++ l2 ++ [opX op]) ([40] ++ t1 ++ [32] ++ sgn op ++ [32] ++ t2 ++ [41]) ((2, [40]) :: (s1 ++ op2 op :: (s2 ++ [(2, [41])]))) (d + 1)
  | call (nm : List UInt8) (ax : List (List Nd × List UInt8 × List Kt)) (d : Nat) : nameL nm = true → V nm = none → ax.length ≤ 4 → (∀ a, a ∈ ax → Tr V a.1 a.2.1 a.2.2 d) → Tr V ((ax.map (·.1)).flatten ++ [⟨19, [], nm, vz0, (ax.length : Int)⟩]) (nm ++ [40] ++ Lib.join (ax.map (·.2.1)) [44, 32] ++ [41]) ((1, nm) :: (2, [40]) :: argT (ax.map (·.2.2))) (d + 1)

theorem Tr.deeper {V : List UInt8 → Option Va} {l : List Nd} {t : List UInt8} {s : List Kt} {d : Nat} (h : Tr V l t s d) : Tr V l t s (d + 1) := by
  induction h with
  | val v T kk d h1 h6 h7 h2 h3 h5 h4 => exact .val v T kk _ h1 h6 h7 h2 h3 h5 h4
  | col1 nm d h1 h2 => exact .col1 nm _ h1 h2
  | col2 tb nm d h1 h2 h3 => exact .col2 tb nm _ h1 h2 h3
  | neg l t s d _ ih => exact .neg l t s _ ih
  | nt l t s d _ ih => exact .nt l t s _ ih
  | isn l t s d _ ih => exact .isn l t s _ ih
  | bin op l1 l2 t1 t2 s1 s2 d h1 h2 _ _ ih1 ih2 => exact .bin op l1 l2 t1 t2 s1 s2 _ h1 h2 ih1 ih2
  | call nm ax d h1 h2 h3 _ ih => exact .call nm ax _ h1 h2 h3 ih
theorem Tr.lift {V : List UInt8 → Option Va} {l : List Nd} {t : List UInt8} {s : List Kt} {d d' : Nat} (h : Tr V l t s d) (hd : d ≤ d') : Tr V l t s d' := by
  obtain ⟨k, rfl⟩ : ∃ k, d' = d + k := ⟨d' - d, by omega⟩
  clear hd
  induction k with
  | zero => exact h
  | succ k ih => exact ih.deeper

theorem Tr.pos {V : List UInt8 → Option Va} {l : List Nd} {t : List UInt8} {s : List Kt} {d : Nat} (h : Tr V l t s d) : 1 ≤ s.length ∧ 1 ≤ l.length := by
  cases h <;> simp <;> omega
/-- The first token of an expression is no not. -/
theorem Tr.first {V : List UInt8 → Option Va} {l : List Nd} {t : List UInt8} {s : List Kt} {d : Nat} (h : Tr V l t s d) : ∃ x r, s = x :: r ∧ (x.2 == wNot) = false := by
  have hn : ∀ nm, nameL nm = true → (nm == wNot) = false := fun nm h => by
    rw [beq_eq_false_iff_ne]
    rintro rfl
    exact absurd h (by decide)
  cases h with
  | val v T kk d h1 h6 h7 h2 h3 h5 h4 => exact ⟨_, _, rfl, h4⟩
  | col1 nm d h1 h2 => exact ⟨_, _, rfl, hn _ h1⟩
  | col2 tb nm d h1 h2 h3 => exact ⟨_, _, rfl, hn _ h1⟩
  | call nm ax d h1 h2 h3 _ => exact ⟨_, _, rfl, hn _ h1⟩
  | _ => exact ⟨_, _, rfl, by decide⟩

/-- What ends a part of any level. -/
def Clo (t : List UInt8) : Prop := t = [41] ∨ t = [44] ∨ t = []
theorem Clo.no {t : List UInt8} (h : Clo t) : opAt t 6 3 = 0 ∧ opAt t 9 2 = 0 ∧ opAt t 11 6 = 0 ∧ opAt t 17 1 = 0 ∧ opAt t 18 1 = 0 ∧ (t == wIs) = false ∧ (t == [40]) = false ∧ (t == [46]) = false := by
  rcases h with rfl | rfl | rfl <;> decide
theorem op_at (op : Nat) (h0 : 6 ≤ op) (h1 : op ≤ 18) :
    opAt (sgn op) 6 3 = (if op ≤ 8 then op else 0) ∧ opAt (sgn op) 9 2 = (if 9 ≤ op ∧ op ≤ 10 then op else 0) ∧ opAt (sgn op) 11 6 = (if 11 ≤ op ∧ op ≤ 16 then op else 0) ∧ opAt (sgn op) 17 1 = (if op = 17 then op else 0) ∧ opAt (sgn op) 18 1 = (if op = 18 then op else 0) ∧ (sgn op == wIs) = false ∧ (sgn op == [40]) = false ∧ (sgn op == [46]) = false := by
  have : ∀ op, op < 19 → 6 ≤ op → (opAt (sgn op) 6 3 = (if op ≤ 8 then op else 0) ∧ opAt (sgn op) 9 2 = (if 9 ≤ op ∧ op ≤ 10 then op else 0) ∧ opAt (sgn op) 11 6 = (if 11 ≤ op ∧ op ≤ 16 then op else 0) ∧ opAt (sgn op) 17 1 = (if op = 17 then op else 0) ∧ opAt (sgn op) 18 1 = (if op = 18 then op else 0) ∧ (sgn op == wIs) = false ∧ (sgn op == [40]) = false ∧ (sgn op == [46]) = false) := by decide
  exact this op (by omega) h0

section
variable {N : Nat → Ti} {V : List UInt8 → Option Va} {M : Nat}
/-- A part alone. -/
theorem steps_one {f c : Nat} {part : Nat → List Nd → Rz} {k k' : Nat} {acc acc' : List Nd} (hM : 1 ≤ M) (h : part k acc = (0, k', acc')) (ho : opAt (N k').t f c = 0) : stepsF N f c part M 0 k acc = (0, k', acc') := by
  obtain ⟨m, rfl⟩ : ∃ m, M = m + 1 := ⟨M - 1, by omega⟩
  unfold stepsF
  rw [h, if_pos rfl]
  simp only
  rw [if_pos ho]
  simp
/-- Two parts. -/
theorem steps_two {f c op : Nat} {part : Nat → List Nd → Rz} {k k' k'' : Nat} {acc acc' acc'' : List Nd} (hM : 2 ≤ M) (h : part k acc = (0, k', acc')) (ho : opAt (N k').t f c = op) (h0 : op ≠ 0) (h2 : part (k' + 1) acc' = (0, k'', acc'')) (ho2 : opAt (N k'').t f c = 0) : stepsF N f c part M 0 k acc = (0, k'', putN acc'' (opX op)) := by
  obtain ⟨m, rfl⟩ : ∃ m, M = m + 1 + 1 := ⟨M - 2, by omega⟩
  unfold stepsF
  rw [h, if_pos rfl]
  simp only
  rw [ho, if_neg h0, if_pos trivial]
  unfold stepsF
  rw [h2, if_pos rfl]
  simp only
  rw [if_pos ho2, if_neg h0]
theorem up_te {n k k' o : Nat} {acc acc' : List Nd} (hM : 1 ≤ M) (h : rdx N V M n .un k acc o = (0, k', acc')) (ho : opAt (N k').t 6 3 = 0) : rdx N V M (n + 1) .te k acc o = (0, k', acc') := steps_one hM h ho
theorem up_su {n k k' o : Nat} {acc acc' : List Nd} (hM : 1 ≤ M) (h : rdx N V M n .te k acc o = (0, k', acc')) (ho : opAt (N k').t 9 2 = 0) : rdx N V M (n + 1) .su k acc o = (0, k', acc') := steps_one hM h ho
theorem up_co {n k k' o : Nat} {acc acc' : List Nd} (h : rdx N V M n .su k acc o = (0, k', acc')) (hi : ((N k').t == wIs) = false) (ho : opAt (N k').t 11 6 = 0) : rdx N V M (n + 1) .co k acc o = (0, k', acc') := by
  unfold rdx
  rw [h, if_pos rfl]
  simp only
  rw [if_neg (by rw [hi]; simp), if_pos ho]
theorem up_no {n k k' o : Nat} {acc acc' : List Nd} (h : rdx N V M n .co k acc o = (0, k', acc')) (hn : ((N k).t == wNot) = false) : rdx N V M (n + 1) .no k acc o = (0, k', acc') := by
  unfold rdx
  rw [if_neg (by rw [hn]; simp)]
  exact h
theorem up_an {n k k' o : Nat} {acc acc' : List Nd} (hM : 1 ≤ M) (h : rdx N V M n .no k acc o = (0, k', acc')) (ho : opAt (N k').t 17 1 = 0) : rdx N V M (n + 1) .an k acc o = (0, k', acc') := steps_one hM h ho
theorem up_ex {n k k' o : Nat} {acc acc' : List Nd} (hM : 1 ≤ M) (h : rdx N V M n .an k acc o = (0, k', acc')) (ho : opAt (N k').t 18 1 = 0) : rdx N V M (n + 1) .ex k acc o = (0, k', acc') := steps_one hM h ho
/-- From a unit, or a part above it, to a whole expression. -/
theorem all_su {n k k' o : Nat} {acc acc' : List Nd} (hM : 1 ≤ M) (h : rdx N V M n .un k acc o = (0, k', acc')) (h1 : opAt (N k').t 6 3 = 0) (h2 : opAt (N k').t 9 2 = 0) : rdx N V M (n + 2) .su k acc o = (0, k', acc') := up_su hM (up_te hM h h1) h2
theorem ex_of_no {n k k' o : Nat} {acc acc' : List Nd} (hM : 1 ≤ M) (h : rdx N V M n .no k acc o = (0, k', acc')) (hc : Clo (N k').t) : rdx N V M (n + 2) .ex k acc o = (0, k', acc') := by
  obtain ⟨_, _, _, h4, h5, _⟩ := hc.no
  exact up_ex hM (up_an hM h h4) h5
theorem ex_of_co {n k k' o : Nat} {acc acc' : List Nd} (hM : 1 ≤ M) (h : rdx N V M n .co k acc o = (0, k', acc')) (hn : ((N k).t == wNot) = false) (hc : Clo (N k').t) : rdx N V M (n + 3) .ex k acc o = (0, k', acc') := ex_of_no hM (up_no h hn) hc
theorem ex_of_su {n k k' o : Nat} {acc acc' : List Nd} (hM : 1 ≤ M) (h : rdx N V M n .su k acc o = (0, k', acc')) (hn : ((N k).t == wNot) = false) (hc : Clo (N k').t) : rdx N V M (n + 4) .ex k acc o = (0, k', acc') := ex_of_co hM (up_co h hc.no.2.2.2.2.2.1 hc.no.2.2.1) hn hc
theorem ex_of_te {n k k' o : Nat} {acc acc' : List Nd} (hM : 1 ≤ M) (h : rdx N V M n .te k acc o = (0, k', acc')) (hn : ((N k).t == wNot) = false) (hc : Clo (N k').t) : rdx N V M (n + 5) .ex k acc o = (0, k', acc') := ex_of_su hM (up_su hM h hc.no.2.1) hn hc
theorem ex_of_un {n k k' o : Nat} {acc acc' : List Nd} (hM : 1 ≤ M) (h : rdx N V M n .un k acc o = (0, k', acc')) (hn : ((N k).t == wNot) = false) (hc : Clo (N k').t) : rdx N V M (n + 6) .ex k acc o = (0, k', acc') := ex_of_te hM (up_te hM h hc.no.1) hn hc
/-- Within parentheses. -/
theorem un_paren {n k k' o : Nat} {acc acc' : List Nd} (hk : (N k).t = [40]) (ho : o < 64) (h : rdx N V M n .ex (k + 1) acc (o + 1) = (0, k', acc')) (hk' : (N k').t = [41]) : rdx N V M (n + 2) .un k acc o = (0, k' + 1, acc') := by
  unfold rdx
  rw [hk]
  rw [if_neg (by decide), if_pos (by decide), if_neg (by omega)]
  unfold rdx
  rw [h, if_pos rfl]
  simp only
  rw [hk', if_pos (by decide)]
end
end Go.Proofs.YtclhmmgdhagloaaGreatDoor
