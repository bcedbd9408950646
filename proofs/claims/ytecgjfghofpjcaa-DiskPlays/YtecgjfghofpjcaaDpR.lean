/-
  The document's disk: where it lies; the contracts of its New, End, operate.
-/
import Derived.Test.YtecgjfghofpjcaaDpM
import Derived.Laws.IdiomStrings
namespace Go.Proofs.Ytecgjfghofpjcaa
open Go.RowKit Go.Maps

/-- Where the document's disk lies. -/
structure Rf where
  R : Nat
  mo : Nat
  mf : Nat
  ao : Option Addr
  cap : Nat

def Rf.has (r : Rf) (k : Nat) : Prop := k = r.R ∨ k = r.mo ∨ k = r.mf ∨ ∃ off, r.ao = some ⟨k, off, none⟩

def rcs (r : Rf) (d : Dk) : Array Value := #[.int .i64 d.lo.most, .int .i64 d.count, .int .i64 (max (-1) d.left), .bool d.off, .int .i64 d.lo.base, .slice r.ao d.lo.bytes.length r.cap, .int .i64 (d.lo.sure : Int), .map (some r.mo), .map (some r.mf)]

structure RkW (w : World) (r : Rf) (no nf : Nat) (d : Dk) : Prop where
  b : w.heap[r.R]? = some (.cells (rcs r d) 47 (0, 0))
  l : Rd w r.ao d.lo.bytes.length r.cap d.lo.bytes
  a : ∀ b off, r.ao = some ⟨b, off, none⟩ → b ≠ r.R ∧ b ≠ r.mo ∧ b ≠ r.mf ∧ b < w.heap.size
  o : MS w r.mo no d.old
  f : MS w r.mf nf d.fresh
  ne : r.mo ≠ r.mf

/-- A disk that may be. -/
structure Dok (d : Dk) : Prop where
  lo : LoOk d.lo
  c0 : 0 ≤ d.count
  c1 : d.count ≤ 65536
  lf : d.left ≤ 9223372036854775807
  fk : ∀ x, (d.fresh x).isSome = true → 0 ≤ x ∧ x < d.count

theorem RkW.lt {w : World} {r : Rf} {no nf : Nat} {d : Dk} (h : RkW w r no nf d) {k : Nat} (hk : r.has k) : k < w.heap.size := by
  rcases hk with rfl | rfl | rfl | ⟨off, e⟩
  · exact bl_lt h.b
  · exact h.o.lt
  · exact h.f.lt
  · exact (h.a _ _ e).2.2.2

theorem RkW.kept {w w' : World} {r : Rf} {no nf : Nat} {d : Dk} (h : RkW w r no nf d) (hs : w.heap.size ≤ w'.heap.size) (hk : ∀ k, r.has k → w'.heap[k]? = w.heap[k]?) : RkW w' r no nf d := by
  refine ⟨(hk _ (.inl rfl)).trans h.b, ?_, fun b off e => ⟨(h.a b off e).1, (h.a b off e).2.1, (h.a b off e).2.2.1, Nat.lt_of_lt_of_le (h.a b off e).2.2.2 hs⟩, h.o.later (hk _ (.inr (.inl rfl))), h.f.later (hk _ (.inr (.inr (.inl rfl)))), h.ne⟩
  obtain ⟨h1, h2, h3, h4, h5⟩ := h.l
  refine ⟨h1, h2, h3, h4, fun hn => ?_⟩
  obtain ⟨b, off, e, hc⟩ := h5 hn
  exact ⟨b, off, e, fun i hi => (World.cell?_of_block (w := w) (a := ⟨b, off + i, none⟩) (hk b (.inr (.inr (.inr ⟨off, e⟩))))).trans (hc i hi)⟩

theorem RkW.later {w w' : World} {r : Rf} {no nf : Nat} {d : Dk} (h : RkW w r no nf d) (hb : Below w.heap.size w w') : RkW w' r no nf d := h.kept hb.size (fun k hk => hb.block k (h.lt hk))

theorem RkW.apart {S : Nat → Prop} {w w' : World} {r : Rf} {no nf : Nat} {d : Dk} (h : RkW w r no nf d) (hC : Chg S w w') (hS : ∀ k, r.has k → ¬ S k) : RkW w' r no nf d := h.kept hC.size (fun k hk => hC.block k (h.lt hk) (hS k hk))

/-- The struct's own block has changed alone. -/
theorem RkW.turn {w w' : World} {r : Rf} {no nf : Nat} {d d' : Dk} (h : RkW w r no nf d) (hC : Chg (fun k => k = r.R) w w') (hb : w'.heap[r.R]? = some (.cells (rcs r d') 47 (0, 0))) (e1 : d'.lo.bytes = d.lo.bytes) (e2 : d'.old = d.old) (e3 : d'.fresh = d.fresh) : RkW w' r no nf d' := by
  have hR := bl_lt h.b
  refine ⟨hb, ?_, fun b off e => ⟨(h.a b off e).1, (h.a b off e).2.1, (h.a b off e).2.2.1, Nat.lt_of_lt_of_le (h.a b off e).2.2.2 hC.size⟩, ?_, ?_, h.ne⟩
  · rw [e1]; exact h.l.chg hC (fun _ b off e => (h.a b off e).1)
  · rw [e2]; exact h.o.later (hC.block _ h.o.lt (h.o.ne h.b))
  · rw [e3]; exact h.f.later (hC.block _ h.f.lt (h.f.ne h.b))

/-- The bytes are others. -/
theorem RkW.turnL {w w' : World} {r : Rf} {no nf : Nat} {d d' : Dk} (h : RkW w r no nf d) (ao : Option Addr) (cap : Nat) (hC : Chg (fun k => k = r.R) w w') (hb : w'.heap[r.R]? = some (.cells (rcs { r with ao := ao, cap := cap } d') 47 (0, 0))) (hl : Rd w' ao d'.lo.bytes.length cap d'.lo.bytes)
    (ha : ∀ b off, ao = some ⟨b, off, none⟩ → (∃ off', r.ao = some ⟨b, off', none⟩) ∨ (w.heap.size ≤ b ∧ b < w'.heap.size)) (e2 : d'.old = d.old) (e3 : d'.fresh = d.fresh) : RkW w' { r with ao := ao, cap := cap } no nf d' := by
  have hR := bl_lt h.b
  have ho := h.o.lt
  have hf := h.f.lt
  refine ⟨hb, hl, fun b off e => ?_, ?_, ?_, h.ne⟩
  · rcases ha b off e with ⟨off', e'⟩ | ⟨q1, q2⟩
    · exact ⟨(h.a b off' e').1, (h.a b off' e').2.1, (h.a b off' e').2.2.1, Nat.lt_of_lt_of_le (h.a b off' e').2.2.2 hC.size⟩
    · exact ⟨show b ≠ r.R by omega, show b ≠ r.mo by omega, show b ≠ r.mf by omega, q2⟩
  · rw [e2]; exact h.o.later (hC.block _ h.o.lt (h.o.ne h.b))
  · rw [e3]; exact h.f.later (hC.block _ h.f.lt (h.f.ne h.b))

section
variable {w : World} {r : Rf} {no nf : Nat} {d : Dk} (h : RkW w r no nf d)
include h
theorem RkW.c0 : w.cell? ⟨r.R, 0, none⟩ = some (.int .i64 d.lo.most) := bl_cell h.b 0 _ rfl
theorem RkW.c1 : w.cell? ⟨r.R, 1, none⟩ = some (.int .i64 d.count) := bl_cell h.b 1 _ rfl
theorem RkW.c2 : w.cell? ⟨r.R, 2, none⟩ = some (.int .i64 (max (-1) d.left)) := bl_cell h.b 2 _ rfl
theorem RkW.c3 : w.cell? ⟨r.R, 3, none⟩ = some (.bool d.off) := bl_cell h.b 3 _ rfl
theorem RkW.c4 : w.cell? ⟨r.R, 4, none⟩ = some (.int .i64 d.lo.base) := bl_cell h.b 4 _ rfl
theorem RkW.c5 : w.cell? ⟨r.R, 5, none⟩ = some (.slice r.ao d.lo.bytes.length r.cap) := bl_cell h.b 5 _ rfl
theorem RkW.c6 : w.cell? ⟨r.R, 6, none⟩ = some (.int .i64 (d.lo.sure : Int)) := bl_cell h.b 6 _ rfl
theorem RkW.c7 : w.cell? ⟨r.R, 7, none⟩ = some (.map (some r.mo)) := bl_cell h.b 7 _ rfl
theorem RkW.c8 : w.cell? ⟨r.R, 8, none⟩ = some (.map (some r.mf)) := bl_cell h.b 8 _ rfl
end

theorem rop_any (r : Rf) (no nf : Nat) (d : Dk) (w : World) (h : RkW w r no nf d) (hl : d.left ≤ 9223372036854775807) :
    Calls Try.prog 45 #[.pointer (some ⟨r.R, 0, none⟩)] w fun e w' => e = .returned (.bool (decide (d.left ≠ 0))) ∧ RkW w' r no nf d.burnt ∧ Chg (fun k => k = r.R) w w' := by
  have c2 := h.c2
  have f2 := bl_open h.b 2
  have f3 := bl_open h.b 3
  have c3 := h.c3
  by_cases h0 : d.left = 0
  · have em : max (-1) d.left = 0 := by omega
    rw [em] at c2
    have H : Hid (RkW w r no nf d) := h
    have H0 : Hid (d.left = 0) := h0
    simp only [h0]
    clear h hl h0 em
    go_enter Try.func45, Try.ntmps45
    go_wp2
    go_ret
    refine ⟨by simp, H.out.turn (chg_set _ _ _ _) ?_ rfl rfl rfl, chg_set _ _ _ _⟩
    have e := bl_set H.out.b 3 (.bool true)
    have e2 : (rcs r d).setIfInBounds 3 (.bool true) = rcs r d.burnt := by simp [rcs, Dk.burnt, burnOff, burnLeft, H0.out]
    rw [e2] at e
    exact e
  · by_cases h1 : 0 < d.left
    · have em : max (-1) d.left = d.left := by omega
      rw [em] at c2
      have hw : IntKind.i64.wrap (d.left - 1) = d.left - 1 := by rw [IntKind.wrap_i64]; omega
      have H : Hid (RkW w r no nf d) := h
      have H0 : Hid (¬ d.left = 0 ∧ 0 < d.left) := ⟨h0, h1⟩
      clear h em
      go_enter Try.func45, Try.ntmps45
      go_wp2
      go_ret
      refine ⟨by simp [H0.out.1], H.out.turn (chg_set _ _ _ _) ?_ rfl rfl rfl, chg_set _ _ _ _⟩
      have e := bl_set H.out.b 2 (.int .i64 (d.left - 1))
      have e2 : (rcs r d).setIfInBounds 2 (.int .i64 (d.left - 1)) = rcs r d.burnt := by
        have h1 := H0.out.2
        have e3 : max (-1) (d.left - 1) = d.left - 1 := by omega
        simp [rcs, Dk.burnt, burnOff, burnLeft, H0.out.1, H0.out.2, e3]
      rw [e2] at e
      exact e
    · have em : max (-1) d.left = -1 := by omega
      rw [em] at c2
      have H : Hid (RkW w r no nf d) := h
      have H0 : Hid (¬ d.left = 0 ∧ ¬ 0 < d.left) := ⟨h0, h1⟩
      clear h em
      go_enter Try.func45, Try.ntmps45
      go_wp2
      go_ret
      refine ⟨by simp, H.out.turn (Chg.refl _ _) ?_ rfl rfl rfl, Chg.refl _ _⟩
      have e2 : rcs r d.burnt = rcs r d := by
        have h2 := H0.out.2
        have e3 : burnLeft d.left = d.left := if_neg (by omega)
        have e4 : burnOff d.left d.off = d.off := if_neg H0.out.1
        simp [rcs, Dk.burnt, e3, e4]
      rw [e2]
      exact H.out.b

theorem rend_any (r : Rf) (no nf : Nat) (d : Dk) (w : World) (h : RkW w r no nf d) :
    Calls Try.prog 32 #[.pointer (some ⟨r.R, 0, none⟩)] w fun e w' => e = .returned (.int .i64 d.lo.fin) ∧ Below w.heap.size w w' := by
  have c4 := h.c4
  have c5 := h.c5
  clear h
  go_enter Try.func32, Try.ntmps32
  go_wp2
  go_region
  go_wp2
  go_ret
  exact ⟨congrArg (fun x => Ending.returned (.int .i64 x)) (wrap64_eq _), (Below.refl _ _).drew⟩

theorem rNew_bad (most pages : Int) (hbad : ¬ (1 ≤ most ∧ most ≤ 16777216 ∧ 0 ≤ pages ∧ pages ≤ 65536)) (w : World) :
    Calls Try.prog 5 #[.int .i64 most, .int .i64 pages] w fun e w' => e = .returned (.pointer none) ∧ w' = w := by
  by_cases h1 : most < 1
  · go_enter Try.func5, Try.ntmps5
    go_wp2
    go_ret
    exact ⟨rfl, rfl⟩
  · by_cases h2 : most > 16777216
    · go_enter Try.func5, Try.ntmps5
      go_wp2
      go_ret
      exact ⟨rfl, rfl⟩
    · by_cases h3 : pages < 0
      · go_enter Try.func5, Try.ntmps5
        go_wp2
        go_ret
        exact ⟨rfl, rfl⟩
      · have h4 : pages > 65536 := by omega
        clear hbad
        go_enter Try.func5, Try.ntmps5
        go_wp2
        go_ret
        exact ⟨rfl, rfl⟩

theorem rNew_good (most pages : Int) (h1 : 1 ≤ most) (h2 : most ≤ 16777216) (h3 : 0 ≤ pages) (h4 : pages ≤ 65536) (w : World) :
    Calls Try.prog 5 #[.int .i64 most, .int .i64 pages] w fun e w' => ∃ r : Rf, e = .returned (.pointer (some ⟨r.R, 0, none⟩)) ∧ RkW w' r 0 0 ⟨⟨most, 0, [], 0⟩, pages, none', none', false, -1⟩ ∧ (∀ k, r.has k → w.heap.size ≤ k) ∧ Below w.heap.size w w' := by
  have hmm := @run_makeMap Try.prog
  have g1 : ¬ most < 1 := by omega
  have g2 : ¬ most > 16777216 := by omega
  have g3 : ¬ pages < 0 := by omega
  have g4 : ¬ pages > 65536 := by omega
  clear h1 h2 h3 h4
  go_enter Try.func5, Try.ntmps5
  go_wp2
  go_ret
  have s1 : (w.alloc (.map #[] 0)).heap.size = w.heap.size + 1 := by simp
  have e1 : w.heap.size < (w.alloc (.map #[] 0)).heap.size := by simp
  have m1 := heap_alloc_new w (.map #[] 0)
  have m2 := heap_alloc_new (w.alloc (.map #[] 0)) (.map #[] 0)
  rw [s1] at m2
  have k1 := fun o => Below.heap_alloc (w.alloc (.map #[] 0)) o w.heap.size e1
  have s2 : ((w.alloc (.map #[] 0)).alloc (.map #[] 0)).heap.size = w.heap.size + 1 + 1 := by simp
  have k2 := fun o k h => Below.heap_alloc ((w.alloc (.map #[] 0)).alloc (.map #[] 0)) o k h
  have m3 := fun o => heap_alloc_new ((w.alloc (.map #[] 0)).alloc (.map #[] 0)) o
  rw [s2] at m3
  refine ⟨⟨w.heap.size + 1 + 1, w.heap.size, w.heap.size + 1, none, 0⟩, rfl, ⟨m3 _, Rd.nil _, (fun b off e => by cases e), MS.made ((k2 _ w.heap.size (by rw [s2]; omega)).trans ((k1 _).trans m1)), MS.made ((k2 _ (w.heap.size + 1) (by rw [s2]; omega)).trans m2), by show w.heap.size ≠ w.heap.size + 1; omega⟩, fun k hk => ?_, (((Below.refl _ w).alloc (Nat.le_refl _) _).alloc (by simp) _).alloc (by simp; omega) _⟩
  rcases hk with e | e | e | ⟨off, e⟩
  · dsimp only at e; omega
  · dsimp only at e; omega
  · dsimp only at e; omega
  · cases e
end Go.Proofs.Ytecgjfghofpjcaa
