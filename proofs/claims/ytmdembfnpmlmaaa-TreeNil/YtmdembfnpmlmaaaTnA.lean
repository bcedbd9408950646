/-
  strings.Clone; the methods of no tree, and of one that nobody made.
-/
import Derived.Test.YtmdembfnpmlmaaaTrJ
import Derived.Test.YtmdembfnpmlmaaaTrN
import Derived.Shelf.Strconv.Clone
import Derived.Ground.NamesProg
import Derived.Shelf.Lay
namespace Go.Proofs.Ytmdembfnpmlmaaa
open Go.RowKit Go.Shelf

shelf_lay LaysM.n316 Nm 316 at Try as Try.laysClone

theorem clone_any (B : ByteArray) (w : World) (h : B.size ≤ 140737488351232) : Calls Try.prog 31 #[.string B] w fun e w' => e = .returned (.string B) ∧ Below w.heap.size w w' := by
  have C : ∀ W, Calls Try.prog 44 #[.string B] W fun e w' => e = .returned (.string B) ∧ Below W.heap.size W w' := fun W => Any.stringslite_Clone Try.laysClone B W (by omega)
  go_enter Try.func31, Try.ntmps31
  go_wp2_with (go_at_call 44; refine (C _).mono ?_; rintro e w' ⟨rfl, hb⟩)
  go_ret
  exact ⟨rfl, hb⟩

theorem results_tmp4 {fn : Func} {t u v x : Tmp} (h : fn.results = #[.tmp t, .tmp u, .tmp v, .tmp x]) (tmps : Array Value) (P : Program) (w : World) :
    (results fn tmps).run P w = .ok (.tuple #[tmps.getD t undef, tmps.getD u undef, tmps.getD v undef, tmps.getD x undef]) w := by
  simp [results, h]

/-- No tree, or one that nobody made. -/
def Bare (w : World) (v : Value) : Prop := v = .pointer none ∨ ∃ T, v = .pointer (some ⟨T, 0, none⟩) ∧ w.heap[T]? = some (.cells #[.pointer none] 49 (0, 0))

theorem blk_cell {w : World} {b : Nat} {t : TypeId} {cs : Array Value} {f : Nat × Nat} (h : w.heap[b]? = some (.cells cs t f)) (i : Nat) (v : Value) (hv : cs[i]? = some v) : w.cell? ⟨b, i, none⟩ = some v := by
  simp [World.cell?, h, hv]

theorem blk_open {w : World} {b : Nat} {t : TypeId} {cs : Array Value} (h : w.heap[b]? = some (.cells cs t (0, 0))) (i : Nat) : w.frozen? ⟨b, i, none⟩ = false := by
  simp [World.frozen?, h]

theorem wasMade_bare (v : Value) (w : World) (hv : Bare w v) :
    Calls Try.prog 27 #[v] w fun e w' => e = .returned (.bool false) ∧ w' = w := by
  rcases hv with rfl | ⟨T, rfl, hT⟩
  · go_enter Try.func27, Try.ntmps27
    go_wp2
    go_ret
    exact ⟨rfl, rfl⟩
  · have c0 := blk_cell hT 0 _ rfl
    clear hT
    go_enter Try.func27, Try.ntmps27
    go_wp2
    go_ret
    exact ⟨rfl, rfl⟩

theorem bare_calls (v : Value) (w : World) (hv : Bare w v) :
    (∀ k n, Calls Try.prog 14 #[v, .string k, .int .i64 n] w fun e w' => e = .returned (.tuple #[.int .i64 0, .bool false]) ∧ w' = w) ∧
    (∀ k, Calls Try.prog 15 #[v, .string k] w fun e w' => e = .returned (.tuple #[.int .i64 0, .bool false]) ∧ w' = w) ∧
    (∀ k, Calls Try.prog 16 #[v, .string k] w fun e w' => e = .returned (.tuple #[.int .i64 0, .bool false]) ∧ w' = w) ∧
    (Calls Try.prog 19 #[v] w fun e w' => e = .returned (.tuple #[.int .i64 0, .int .i64 0, .int .i64 0, .int .i64 0]) ∧ w' = w) ∧
    (Calls Try.prog 12 #[v] w fun e w' => e = .returned (.slice none 0 0) ∧ w' = w) ∧
    (Calls Try.prog 13 #[v] w fun e w' => e = .returned (.int .i64 0) ∧ w' = w) := by
  have C := wasMade_bare v w hv
  obtain ⟨x, rfl⟩ : ∃ x, v = .pointer x := by rcases hv with rfl | ⟨B, rfl, _⟩ <;> exact ⟨_, rfl⟩
  clear hv
  refine ⟨fun k n => ?_, fun k => ?_, fun k => ?_, ?_, ?_, ?_⟩
  · go_enter Try.func14, Try.ntmps14
    go_wp2_with (go_at_call 27; refine C.mono ?_; rintro e w' ⟨rfl, hw⟩; obtain rfl : w = w' := hw.symm)
    go_ret2
    exact ⟨rfl, rfl⟩
  · go_enter Try.func15, Try.ntmps15
    go_wp2_with (go_at_call 27; refine C.mono ?_; rintro e w' ⟨rfl, hw⟩; obtain rfl : w = w' := hw.symm)
    go_ret2
    exact ⟨rfl, rfl⟩
  · go_enter Try.func16, Try.ntmps16
    go_wp2_with (go_at_call 27; refine C.mono ?_; rintro e w' ⟨rfl, hw⟩; obtain rfl : w = w' := hw.symm)
    go_ret2
    exact ⟨rfl, rfl⟩
  · go_enter Try.func19, Try.ntmps19
    go_wp2_with (go_at_call 27; refine C.mono ?_; rintro e w' ⟨rfl, hw⟩; obtain rfl : w = w' := hw.symm)
    refine bodyPost_ret (results_tmp4 rfl _ _ _) rfl ?_
    exact ⟨rfl, rfl⟩
  · go_enter Try.func12, Try.ntmps12
    go_wp2_with (go_at_call 27; refine C.mono ?_; rintro e w' ⟨rfl, hw⟩; obtain rfl : w = w' := hw.symm)
    go_ret
    exact ⟨rfl, rfl⟩
  · go_enter Try.func13, Try.ntmps13
    go_wp2_with (go_at_call 27; refine C.mono ?_; rintro e w' ⟨rfl, hw⟩; obtain rfl : w = w' := hw.symm)
    go_ret
    exact ⟨rfl, rfl⟩
end Go.Proofs.Ytmdembfnpmlmaaa
