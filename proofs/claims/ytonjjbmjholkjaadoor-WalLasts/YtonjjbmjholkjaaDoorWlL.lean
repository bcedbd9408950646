/-
  Rows of texts that WalLasts lays anew; what is told behind a crash.
-/
import Derived.Test.YtonjjbmjholkjaaDoorWlE
namespace Go.Proofs.YtonjjbmjholkjaaDoor
open Go.RowKit Go.Shelf

theorem own_ge {W : World} {n₀ m : Nat} {e : TypeId} {size k : Nat} {v : Value} {xs : List Value} (h : W.ownsRow n₀ e size v k xs) (hv : ∀ b, v.ownBlock = some b → m ≤ b) : ∀ b, v.ownBlock = some b → m ≤ b ∧ b < W.heap.size := fun b e => ⟨hv b e, (row_own h e).2.1⟩

/-- An append onto a row that is newer than the world W. -/
theorem row_on {W W2 : World} {n₀ : Nat} {vd : Value} {A : List (List UInt8)} (hb : Below W.heap.size W W2) (hn : n₀ ≤ W.heap.size) (hA : W2.ownsRow n₀ 9 1 vd A.length (svT A)) (hv : ∀ b, vd.ownBlock = some b → W.heap.size ≤ b) (xv : Value) (B : List (List UInt8)) (hs : Src Tryd.prog 1 32 xv B.length (svT B) W2) (hl : A.length + B.length ≤ 100000) :
    ∃ v' w', (Builtin.append_ #[32, 32] 32 #[vd, xv]).run Tryd.prog W2 = .ok v' w' ∧ w'.ownsRow n₀ 9 1 v' (A ++ B).length (svT (A ++ B)) ∧ Below W.heap.size W w' ∧ (∀ b, v'.ownBlock = some b → W.heap.size ≤ b) := by
  obtain ⟨v', w', h1, h2, h3, h4⟩ := srow_append hA xv B hs (Nat.le_trans hn hb.size) hl
  refine ⟨v', w', h1, h2, hb.trans ((chg_of_grown h3).below hb.size (fun k e => hv k e.symm)), fun b e => ?_⟩
  rcases h4 with q | q
  · rw [q] at e; exact hv b e
  · rw [q] at e; cases e; exact hb.size

/-- A row of texts laid anew. -/
theorem row_anew (W : World) (n₀ : Nat) (hn : n₀ ≤ W.heap.size) (xv : Value) (B : List (List UInt8)) (hs : ∀ V, Below W.heap.size W V → Src Tryd.prog 1 32 xv B.length (svT B) V) (hl : B.length ≤ 100000) :
    ∃ v' w', (Builtin.append_ #[32, 32] 32 #[.slice (some ⟨W.heap.size, 0, none⟩) 0 0, xv]).run Tryd.prog (W.alloc (.cells #[] 9)) = .ok v' w' ∧ w'.ownsRow n₀ 9 1 v' B.length (svT B) ∧ Below W.heap.size W w' ∧ (∀ b, v'.ownBlock = some b → W.heap.size ≤ b) := by
  have b1 : Below W.heap.size W (W.alloc (.cells #[] 9)) := (Below.refl _ _).alloc (Nat.le_refl _) _
  exact row_on (A := []) b1 hn (srow_new W n₀ hn) (fun b e => by cases e; exact Nat.le_refl _) xv B (hs _ b1) (by simpa using hl)

/-- Each record told begins behind the one ahead of it. -/
theorem its_rise : ∀ (l : List (List UInt8)) (off j : Nat) (h : j + 1 < (its off l).length), ((its off l)[j]).off < ((its off l)[j + 1]).off := by
  intro l
  induction l with
  | nil => intro off j h; simp [its] at h
  | cons y l ih =>
    intro off j h
    have hp := rec_len y
    cases j with
    | zero =>
      cases l with
      | nil => simp [its] at h
      | cons z l => simp only [its, List.getElem_cons_zero, List.getElem_cons_succ]; omega
    | succ j =>
      simp only [its, List.getElem_cons_succ]
      exact ih _ j (by simpa [its] using h)

/-- The blocks of a disk by their kinds. -/
theorem dk_typed {w : World} {h : Wh} {no nf : Nat} {d : Dk} (s : DkW w h no nf d) {k : Nat} (hk : h.has k) {c : Array Value} {T : TypeId} (hc : w.heap[k]? = some (.cells c T (0, 0))) : Wt T := by
  rcases hk with e | e | e | e | e | e | e
  · subst e; exact .inr (.inr (.inr (.inr (.inl (cty hc s.b)))))
  · subst e; exact .inr (.inr (.inr (.inr (.inr (.inl (cty hc s.z))))))
  · subst e
    obtain ⟨cL, hL⟩ := s.lcells
    exact .inr (.inr (.inr (.inr (.inr (.inr (.inl (cty hc hL)))))))
  · subst e; exact .inr (.inr (.inr (.inr (.inr (.inr (.inr (cty hc s.p.b)))))))
  · exact absurd e.symm (s.p.o.ne hc)
  · exact absurd e.symm (s.p.f.ne hc)
  · obtain ⟨c2, hc2⟩ := s.gcells e
    exact .inr (.inr (.inl (cty hc hc2)))

theorem row_dk {w w' : World} {h : Wh} {no nf : Nat} {d : Dk} (s : DkW w h no nf d) (hC : Chg h.has w w') {n₀ n : Nat} {v : Value} {xs : List Value} (hr : w.ownsRow n₀ 9 1 v n xs) : w'.ownsRow n₀ 9 1 v n xs :=
  row_kept hr (fun b e => by
    obtain ⟨_, h2, c, hc⟩ := row_own hr e
    exact hC.block b h2 (fun hp => absurd (dk_typed s hp hc) (by unfold Wt; decide)))

/-- The cells of the j-th entry. -/
theorem ecs_at : ∀ (xs : List Itv) (j : Nat) (h : j < xs.length), (ecs 0 xs)[j * 2]? = some (.int .i64 ((xs[j].it.off : Nat) : Int)) ∧ (ecs 0 xs)[j * 2 + 1]? = some (.slice xs[j].ao xs[j].it.inn.length xs[j].cap) := by
  intro xs
  induction xs with
  | nil => intro j h; simp at h
  | cons x xs ih =>
    intro j h
    have e : ecs 0 (x :: xs) = [.int .i64 ((0 : Int) + x.it.off), .slice x.ao x.it.inn.length x.cap] ++ ecs 0 xs := by simp [ecs]
    rw [e]
    cases j with
    | zero => simp
    | succ j =>
      have := ih j (by simpa using h)
      rw [show (j + 1) * 2 = j * 2 + 2 by omega, show j * 2 + 2 + 1 = (j * 2 + 1) + 2 by omega]
      rw [List.getElem?_append_right (by simp), List.getElem?_append_right (by simp)]
      simpa using this

/-- What is at the j-th place of a row of entries, and in the texts of all. -/
structure Tj (W : World) (gv : Nat) (ga : Nat) (j : Nat) (off : Nat) (ao : Option Addr) (cap : Nat) (y : List UInt8) : Prop where
  c0 : W.cell? ⟨gv, j * 2, none⟩ = some (.int .i64 (off : Int))
  c1 : W.cell? ⟨gv, j * 2 + 1, none⟩ = some (.slice ao y.length cap)
  rd : Rd W ao y.length cap y
  al : W.cell? ⟨ga, j, none⟩ = some (.string ⟨y.toArray⟩)

theorem Tj.later {W W' : World} {gv ga j off : Nat} {ao : Option Addr} {cap : Nat} {y : List UInt8} (h : Tj W gv ga j off ao cap y) (hb : Below W.heap.size W W') : Tj W' gv ga j off ao cap y :=
  ⟨(hb.cell (p := ⟨gv, j * 2, none⟩) (World.block_lt_of_cell? W _ h.c0)).trans h.c0, (hb.cell (p := ⟨gv, j * 2 + 1, none⟩) (World.block_lt_of_cell? W _ h.c1)).trans h.c1, h.rd.later hb, (hb.cell (p := ⟨ga, j, none⟩) (World.block_lt_of_cell? W _ h.al)).trans h.al⟩

/-- All that is told is what was put there, each behind the one ahead. -/
theorem told_all {W : World} {n₁ n₂ : Nat} {xs : List Itv} {v vA : Value} {T A : List (List UInt8)} (hm : xs.map Itv.it = its 0 T) (hrow : W.ownsRow n₁ 42 2 v xs.length (ecs 0 xs)) (hin : Inn W n₁ xs) (hA : W.ownsRow n₂ 9 1 vA A.length (svT A)) (hTA : ∀ j, j < T.length → A[j]? = T[j]?) :
    xs.length = T.length ∧ ∀ j, j < T.length → ∃ gv cv ga cA off ao cap y, v = .slice (some ⟨gv, 0, none⟩) xs.length cv ∧ vA = .slice (some ⟨ga, 0, none⟩) A.length cA ∧ Tj W gv ga j off ao cap y ∧ (0 < j → ∃ off' ao' cap' y', Tj W gv ga (j - 1) off' ao' cap' y' ∧ off' < off) := by
  have hl : xs.length = T.length := by have := congrArg List.length hm; rw [List.length_map, its_len] at this; exact this
  refine ⟨hl, fun j hj => ?_⟩
  have hAl : j < A.length := by
    have h1 := hTA j hj
    rw [List.getElem?_eq_getElem hj] at h1
    exact (List.getElem?_eq_some_iff.1 h1).1
  obtain ⟨gv, cv, rfl⟩ : ∃ gv cv, v = .slice (some ⟨gv, 0, none⟩) xs.length cv := by
    rcases hrow.2 with ⟨_, h0⟩ | ⟨g, cap, cur, e, _⟩
    · omega
    · exact ⟨g, cap, e⟩
  obtain ⟨ga, cA, rfl⟩ : ∃ ga cA, vA = .slice (some ⟨ga, 0, none⟩) A.length cA := by
    rcases hA.2 with ⟨_, h0⟩ | ⟨g, cap, cur, e, _⟩
    · omega
    · exact ⟨g, cap, e⟩
  have one : ∀ i, i < T.length → ∃ hi : i < xs.length, Tj W gv ga i xs[i].it.off xs[i].ao xs[i].cap xs[i].it.inn := by
    intro i hi
    have hix : i < xs.length := by omega
    have hiA : i < A.length := by
      have h1 := hTA i hi
      rw [List.getElem?_eq_getElem hi] at h1
      exact (List.getElem?_eq_some_iff.1 h1).1
    obtain ⟨e0, e1⟩ := ecs_at xs i hix
    have c0 := World.ownsRow.cells hrow (g := gv) rfl (i * 2) _ e0
    have c1 := World.ownsRow.cells hrow (g := gv) rfl (i * 2 + 1) _ e1
    rw [Addr.add_lit, Nat.zero_add] at c0 c1
    obtain ⟨a, c, q, hr, -⟩ := (hin xs[i] (List.getElem_mem _)).rd
    cases q
    have hinn : A[i]? = some xs[i].it.inn := by
      rw [hTA i hi]
      have h1 : (xs.map Itv.it)[i]? = (its 0 T)[i]? := by rw [hm]
      have h2 : ((its 0 T).map It.inn)[i]? = T[i]? := by rw [its_inn]
      rw [← h2, List.getElem?_map, ← h1]
      simp [hix]
    have al := World.ownsRow.cells hA (g := ga) rfl i (.string ⟨xs[i].it.inn.toArray⟩) (by simp [svT, hinn])
    rw [Addr.add_lit, Nat.zero_add] at al
    exact ⟨hix, c0, c1, hr, al⟩
  obtain ⟨hjx, tj⟩ := one j hj
  refine ⟨gv, cv, ga, cA, _, _, _, _, rfl, rfl, tj, fun hp => ?_⟩
  obtain ⟨hjx1, tj1⟩ := one (j - 1) (by omega)
  refine ⟨_, _, _, _, tj1, ?_⟩
  have hr := its_rise T 0 (j - 1) (by rw [its_len]; omega)
  have g1 : xs[j - 1].it = (its 0 T)[j - 1]'(by rw [its_len]; omega) := by
    have : (xs.map Itv.it)[j - 1]'(by simpa using hjx1) = (its 0 T)[j - 1]'(by rw [its_len]; omega) := by simp only [hm]
    rw [← this, List.getElem_map]
  have g2 : xs[j].it = (its 0 T)[j - 1 + 1]'(by rw [its_len]; omega) := by
    have : (xs.map Itv.it)[j]'(by simpa using hjx) = (its 0 T)[j]'(by rw [its_len]; omega) := by simp only [hm]
    have e : (its 0 T)[j - 1 + 1]'(by rw [its_len]; omega) = (its 0 T)[j]'(by rw [its_len]; omega) := by congr 1; omega
    rw [e, ← this, List.getElem_map]
  rw [g1, g2]
  exact hr
end Go.Proofs.YtonjjbmjholkjaaDoor
