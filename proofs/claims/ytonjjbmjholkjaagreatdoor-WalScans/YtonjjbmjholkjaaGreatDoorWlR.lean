/-
  Of no program: a range over a function whose iterator lays, ahead of each round, what it hands over; the round may lean on what lies there.
-/
import Derived.RangeFuncNested
import Derived.RangeFuncCalls
import Derived.RangeFuncLeaves
import Derived.RangeFuncBox
namespace Go.Proofs.YtonjjbmjholkjaaGreatDoor
open Go.RowKit

theorem grown_of_low {w w' : World} (h : Below w.heap.size w w') : w.grownBy w' none := ⟨h.os, h.tape, h.output, h.size, fun k hk _ => h.block k hk⟩

/-- How a round must end: off its end. -/
def lendPost {α : Type} (B : Nat) (Kp : World → World → Prop) (I : List α → World → Prop) (xs : List α) (W : World) (e : Exit) (_ : Act) (W' : World) : Prop :=
  e = .normal ∧ KeepsFrom B W W' ∧ Kp W W' ∧ I xs W'

/-- What an iterator does: between two rounds it changes nothing that was there; at each yield Y holds of the world behind the last round and of the one now. -/
def Lends {α : Type} (F : Fence) (n : Nat) (P : Program) (gf : Nat) (lb : Array Value) (encs : α → Array Value) (Kp : World → World → Prop) (Y : List α → World → α → World → Prop) (S : List α → Prop) (w : World) : Prop :=
  ∀ (l : Nat) (J : List α → World → Prop) (W : World), Below w.heap.size w W →
    (∀ pre x W0 W1, J pre W0 → Below W0.heap.size W0 W1 → Y pre W0 x W1 → YieldAt F (n - 1) P l (encs x) W1 fun e W' => e = .returned (.bool true) ∧ J (pre ++ [x]) W' ∧ Kp W1 W') →
    J [] W →
    CallsIn F n P gf (#[.func (.yield l) #[] #[]] ++ lb) W fun e W' => (∃ v, e = .returned v) ∧ ∃ xs W0, S xs ∧ J xs W0 ∧ Below W0.heap.size W0 W'

variable {F : Fence} {n : Nat} {P : Program}

theorem range_lend {α : Type} {g : Operand} {ps : Array Tmp} {assign body : Code} {Q : Exit → Act → World → Prop} {a : Act} {w : World}
    (hro : F.round = none) (h1 : 1 ≤ n) {gf : Nat} {lb : Array Value} (hg : a.eval g = .func (.func gf) #[] lb) (hFg : F.fn gf) (eg : ∀ args w, (callFunc gf args).run P w = .ok (.enter gf args) w)
    {encs : α → Array Value} (hps : ∀ x, (encs x).size = ps.size) {Kp : World → World → Prop} (hKt : ∀ {A B C : World}, Kp A B → Kp B C → Kp A C)
    (hKb : ∀ (W : World) (l : Nat) (o o' : Obj), w.heap.size ≤ l → W.heap[l]? = some o → o.isCells = false → o.isWalk = false → Kp W (W.putObj l o'))
    {Y : List α → World → α → World → Prop} {S : List α → Prop} (hit : Lends F (n - 1) P gf lb encs Kp Y S w)
    (I : List α → World → Prop) (hI : OwnFrom w.heap.size I) (h0 : I [] w) (Ax : List α → α → Act → World → Prop) (hAx : ∀ pre x a', OwnFrom w.heap.size (fun (_ : Unit) W => Ax pre x a' W))
    (hassign : ∀ (l : Nat) (pre : List α) (x : α) (W0 W1 : World) (K : Act → World → Prop), w.heap.size ≤ W0.heap.size → I pre W0 → I pre W1 → Below W0.heap.size W0 W1 → Y pre W0 x W1 →
      (∀ a' W', KeepsFrom w.heap.size W1 W' → Kp W1 W' → I pre W' → Ax pre x a' W' → K a' W') →
      assign.wpIn (F.inRound l) (n - 1 - 1) P (Exit.then K (fun _ _ _ => False)) { tmps := (ps.zip (encs x)).foldl (fun t (p, v) => t.setIfInBounds p v) a.tmps, defers := [] } W1)
    (hbody : ∀ (l : Nat) (pre : List α) (x : α) (a' : Act) (W : World), w.heap.size ≤ l → I pre W → Ax pre x a' W → body.wpIn (F.inRound l) (n - 1 - 1) P (lendPost w.heap.size Kp I (pre ++ [x]) W) a' W)
    (hdone : ∀ (D : Nat) (xs : List α) (W : World), w.heap.size ≤ D → S xs → I xs W → W.heap[D]? = some (.deferred (some [])) → Q .normal { a with defers := { target := .collected D, args := #[] } :: a.defers } W) :
    (Code.rangeFunc g ps assign body).wpIn F n P Q a w := by
  refine wpIn_rangeFunc ?_
  intro fn hfn
  rw [hro]
  -- the two blocks that the statement lays
  obtain ⟨D, hD⟩ : ∃ D, D = w.heap.size := ⟨_, rfl⟩
  obtain ⟨rc, hrc⟩ : ∃ rc : LoopState → Option Code → Loop, rc = fun st pe => { state := st, pending := pe, fn, tmps := a.tmps, params := ps, assign, body, defers := D } := ⟨_, rfl⟩
  obtain ⟨W1, hW1⟩ : ∃ W1, W1 = (w.alloc (.deferred (some []))).alloc (.loop (rc .ready none)) := ⟨_, rfl⟩
  have low : Below w.heap.size w W1 := by
    rw [hW1]; exact ((Below.refl _ w).alloc (Nat.le_refl _) _).alloc (by simp) _
  have hl1 : W1.heap[D + 1]? = some (.loop (rc .ready none)) := by
    have := World.alloc_heap_new (w.alloc (.deferred (some []))) (.loop (rc .ready none))
    rw [World.size_alloc] at this
    rw [hW1, hD]; exact this
  have hd1 : W1.heap[D]? = some (.deferred (some [])) := by
    rw [hW1, hD]; exact (Below.heap_alloc _ _ _ (by simp)).trans (World.alloc_heap_new w _)
  have start : I [] W1 := by rw [hW1]; exact hI.alloc _ (hI.alloc _ h0)
  refine ⟨D + 1, [{ target := .collected D, args := #[] }], W1, { target := .fn (.func gf) lb, args := #[.func (.yield (D + 1)) #[] #[]] }, W1, gf, #[.func (.yield (D + 1)) #[] #[]] ++ lb, W1, ?_, ?_, ?_, ?_, fun _ => h1, ?_⟩
  · rw [hW1, hrc, hD]; exact run_enterLoop_outer _ _ _ _ _
  · simp only [resolve, hg]
    simp [go_sem]
  · intro f' hf'
    simp [Target.leads] at hf'
    subst hf'; exact hFg
  · simp [invoke, go_sem, eg]
  · -- J: I, and the two blocks as they must be between two rounds
    refine (hit (D + 1) (fun pre W => I pre W ∧ W.heap[D + 1]? = some (.loop (rc .ready none)) ∧ W.heap[D]? = some (.deferred (some []))) W1 low ?_ ⟨start, hl1, hd1⟩).mono ?_
    · rintro pre x V0 V1 ⟨hi, hl, hd⟩ hb hy
      have lt0 : D + 1 < V0.heap.size := (Array.getElem?_eq_some_iff.1 hl).1
      have hiV := hI _ V0 V1 none hi (grown_of_low hb) (fun r e => by cases e)
      replace hl := (hb.block _ lt0).trans hl
      replace hd := (hb.block _ (by omega)).trans hd
      have hyield := run_yield (P := P) (args := encs x) hl (by rw [hrc]; exact hps x)
      rw [hrc] at hyield
      refine ⟨fn, _, assign, body, hyield, roundIn_of_wpIn hfn (hassign _ pre x V0 V1 _ (by omega) hi hiV hb hy ?_)⟩
      clear hyield hy hiV hi
      intro a' A hkf hkp hiA hax
      replace hl := hkf.same _ _ (by omega) hl rfl
      replace hd := hkf.same _ _ (by omega) hd rfl
      refine ⟨_, run_beginRound hl (by rw [hrc]), ?_⟩
      obtain ⟨bz, hbz⟩ : ∃ bz : Loop, bz = { rc .ready none with state := .busy } := ⟨_, rfl⟩
      rw [← hbz]
      have hlB : (A.putObj (D + 1) (.loop bz)).heap[D + 1]? = some (.loop bz) := World.putObj_heap_same (Array.getElem?_eq_some_iff.1 hl).1
      have hdB : (A.putObj (D + 1) (.loop bz)).heap[D]? = some (.deferred (some [])) := (World.putObj_heap_other (by omega)).trans hd
      have kB : Kp A (A.putObj (D + 1) (.loop bz)) := hKb _ _ _ _ (by omega) hl rfl rfl
      have iB := hI.putObj (.loop bz) hiA (by omega) hl rfl
      have xB := (hAx pre x a').putObj (s := ()) (.loop bz) hax (by omega) hl rfl
      generalize A.putObj (D + 1) (.loop bz) = B at *
      refine wpIn_mono (hbody _ pre x a' B (by omega) iB xB) ?_
      rintro e a3 C ⟨rfl, kf, kp, iC⟩
      have hlC := kf.same _ _ (by omega) hlB rfl
      have hdC := kf.same _ _ (by omega) hdB rfl
      refine ⟨_, _, run_endRound (P := P) none hlC, rfl, ⟨hI.putObj _ iC (by omega) hlC rfl, ?_, ?_⟩, ?_⟩
      · rw [World.putObj_heap_same (Array.getElem?_eq_some_iff.1 hlC).1, hbz, hrc]; rfl
      · exact (World.putObj_heap_other (by omega)).trans hdC
      · exact hKt hkp (hKt kB (hKt kp (hKb _ _ _ _ (by omega) hlC rfl rfl)))
    · rintro e Z ⟨⟨v, rfl⟩, xs, Z0, hS, ⟨hi, hl, hd⟩, hb⟩
      have lt0 : D + 1 < Z0.heap.size := (Array.getElem?_eq_some_iff.1 hl).1
      have hiZ := hI _ Z0 Z none hi (grown_of_low hb) (fun r e => by cases e)
      replace hl := (hb.block _ lt0).trans hl
      replace hd := (hb.block _ (by omega)).trans hd
      have hend := run_endLoop (P := P) hl (by rw [hrc]; simp)
      rw [hrc] at hend
      exact ⟨none, _, hend, hdone D xs _ (by omega) hS (hI.putObj _ hiZ (by omega) hl rfl) ((World.putObj_heap_other (by omega)).trans hd)⟩
end Go.Proofs.YtonjjbmjholkjaaGreatDoor
