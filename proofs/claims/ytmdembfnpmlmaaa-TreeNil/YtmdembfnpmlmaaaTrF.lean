/-
  Entries and pointers as plain data, as cells, as rows of one's own.
-/
import Derived.Test.YtmdembfnpmlmaaaTrA
import Derived.Test.YtmdembfnpmlmaaaProg
namespace Go.Proofs.Ytmdembfnpmlmaaa
open Go.RowKit Go.Lib

/-- An entry: its key's bytes and its number. -/
abbrev Ent := ByteArray × Int
def ecs (es : List Ent) : List Value := es.flatMap fun x => [.string x.1, .int .i64 x.2]
def pcs (bs : List Nat) : List Value := bs.map fun b => .pointer (some ⟨b, 0, none⟩)
theorem ecs_cons (x : Ent) (es : List Ent) : ecs (x :: es) = .string x.1 :: .int .i64 x.2 :: ecs es := rfl
theorem ecs_append (a b : List Ent) : ecs (a ++ b) = ecs a ++ ecs b := by simp [ecs]
theorem ecs_len (es : List Ent) : (ecs es).length = es.length * 2 := by
  induction es with
  | nil => rfl
  | cons x es ih => rw [ecs_cons, List.length_cons, List.length_cons, ih, List.length_cons]; omega
theorem ecs_at (es : List Ent) : ∀ (i : Nat) (h : i < es.length), (ecs es)[i * 2]? = some (.string es[i].1) ∧ (ecs es)[i * 2 + 1]? = some (.int .i64 es[i].2) := by
  induction es with
  | nil => intro i h; simp at h
  | cons c cs ih =>
    intro i h
    cases i with
    | zero => exact ⟨rfl, rfl⟩
    | succ i =>
      have := ih i (by simpa using h)
      rw [ecs_cons, show (i + 1) * 2 = i * 2 + 1 + 1 by omega, show i * 2 + 1 + 1 + 1 = (i * 2 + 1) + 1 + 1 by omega]
      simpa using this
theorem ecs_take (es : List Ent) : ∀ i, (ecs es).take (i * 2) = ecs (es.take i) := by
  induction es with
  | nil => intro i; simp [ecs]
  | cons c cs ih =>
    intro i
    cases i with
    | zero => simp [ecs]
    | succ i => rw [ecs_cons, show (i + 1) * 2 = i * 2 + 1 + 1 by omega, List.take_succ_cons, List.take_succ_cons, ih i, List.take_succ_cons, ecs_cons]
theorem ecs_drop (es : List Ent) : ∀ i, (ecs es).drop (i * 2) = ecs (es.drop i) := by
  induction es with
  | nil => intro i; simp [ecs]
  | cons c cs ih =>
    intro i
    cases i with
    | zero => simp
    | succ i => rw [ecs_cons, show (i + 1) * 2 = i * 2 + 1 + 1 by omega, List.drop_succ_cons, List.drop_succ_cons, ih i, List.drop_succ_cons]
theorem ecs_one (es : List Ent) : ∀ v ∈ ecs es, v.oneCell' = true := by
  intro v hv
  simp only [ecs, List.mem_flatMap] at hv
  obtain ⟨x, _, hv⟩ := hv
  simp at hv
  rcases hv with rfl | rfl <;> rfl
theorem pcs_append (a b : List Nat) : pcs (a ++ b) = pcs a ++ pcs b := by simp [pcs]
theorem pcs_len (bs : List Nat) : (pcs bs).length = bs.length * 1 := by simp [pcs]
theorem pcs_at (bs : List Nat) (i : Nat) (h : i < bs.length) : (pcs bs)[i * 1]? = some (.pointer (some ⟨bs[i], 0, none⟩)) := by simp [pcs, h]
theorem pcs_take (bs : List Nat) (i : Nat) : (pcs bs).take (i * 1) = pcs (bs.take i) := by simp [pcs, List.map_take]
theorem pcs_drop (bs : List Nat) (i : Nat) : (pcs bs).drop (i * 1) = pcs (bs.drop i) := by simp [pcs, List.map_drop]
theorem pcs_one (bs : List Nat) : ∀ v ∈ pcs bs, v.oneCell' = true := by
  intro v hv
  simp only [pcs, List.mem_map] at hv
  obtain ⟨x, _, rfl⟩ := hv
  rfl
/-- A row of entries, of pointers, of one's own. -/
def OwE (w : World) (N : Nat) (v : Value) (es : List Ent) : Prop := w.ownsRow N 65 2 v es.length (ecs es)
def OwN (w : World) (N : Nat) (v : Value) (bs : List Nat) : Prop := w.ownsRow N 55 1 v bs.length (pcs bs)
theorem own_at {w : World} {base e size n cap g : Nat} {xs : List Value} (h : w.ownsRow base e size (.slice (some ⟨g, 0, none⟩) n cap) n xs) {t : Nat} {u : Value} (hu : xs[t]? = some u) : w.cell? ⟨g, t, none⟩ = some u := by
  obtain ⟨cur, hg, _, _, _, htake, _, _⟩ := own_cell h
  rw [cell_of_row w g t cur e (0, 0) hg]
  rw [← htake, List.getElem?_take] at hu
  split at hu
  · simpa using hu
  · cases hu
theorem OwE.at {w : World} {N g cap : Nat} {es : List Ent} (h : OwE w N (.slice (some ⟨g, 0, none⟩) es.length cap) es) (i : Nat) (hi : i < es.length) :
    w.cell? ⟨g, i * 2, none⟩ = some (.string es[i].1) ∧ w.cell? ⟨g, i * 2 + 1, none⟩ = some (.int .i64 es[i].2) :=
  ⟨own_at h (ecs_at es i hi).1, own_at h (ecs_at es i hi).2⟩
theorem OwN.at {w : World} {N g cap : Nat} {bs : List Nat} (h : OwN w N (.slice (some ⟨g, 0, none⟩) bs.length cap) bs) (i : Nat) (hi : i < bs.length) :
    w.cell? ⟨g, i, none⟩ = some (.pointer (some ⟨bs[i], 0, none⟩)) := by
  have := own_at h (pcs_at bs i hi)
  rwa [Nat.mul_one] at this
/-- What the value of a row of one's own is. -/
theorem own_val {w : World} {base e size n : Nat} {v : Value} {xs : List Value} (h : w.ownsRow base e size v n xs) :
    (v = .slice none 0 0 ∧ n = 0) ∨ ∃ g cap, v = .slice (some ⟨g, 0, none⟩) n cap ∧ n ≤ cap ∧ cap ≤ maxLen ∧ base ≤ g ∧ g < w.heap.size := by
  rcases h.2 with h2 | ⟨g, cap, cur, hv, hbb, hg, hnc, hcm, _⟩
  · exact .inl h2
  · exact .inr ⟨g, cap, hv, hnc, hcm, hbb, (Array.getElem?_eq_some_iff.1 hg).1⟩
end Go.Proofs.Ytmdembfnpmlmaaa
