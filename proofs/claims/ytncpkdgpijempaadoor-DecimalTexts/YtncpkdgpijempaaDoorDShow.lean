/-
  What decimal.Print gives of the two decimals that the statements' knows asks for.
-/
import Derived.Test.YtncpkdgpijempaaDoorDArith
import Derived.Test.YtncpkdgpijempaaDoorDJumps
import Derived.Laws.IdiomStrings
namespace Go.Proofs.YtncpkdgpijempaaDoor
open Go.RowKit
attribute [local go_sem] cell?_more frozen?_more setCell_more more_lt more_more more_drew more_drewN setCell_drewN alloc_drewN

def room2 : Array Value := #[.int .u8 0, .int .u8 0, .int .u8 0, .int .u8 0, .int .u8 0, .int .u8 0, .int .u8 0, .int .u8 0, .int .u8 0, .int .u8 0, .int .u8 0, .int .u8 0, .int .u8 0, .int .u8 0, .int .u8 0, .int .u8 0, .int .u8 0, .int .u8 0, .int .u8 0, .int .u8 0, .int .u8 50]
def room33 : Array Value := #[.int .u8 0, .int .u8 0, .int .u8 0, .int .u8 0, .int .u8 0, .int .u8 0, .int .u8 0, .int .u8 0, .int .u8 0, .int .u8 0, .int .u8 0, .int .u8 0, .int .u8 0, .int .u8 0, .int .u8 0, .int .u8 0, .int .u8 0, .int .u8 48, .int .u8 46, .int .u8 51, .int .u8 51]

theorem str_2 (V : World) (n : Nat) : (convert 56 9 (.slice (some ⟨V.heap.size, 20, none⟩) 1 1)).run Tryd.prog ((V.alloc (.cells room2 54)).drewN n) = .ok (.string ⟨#[50]⟩) ((V.alloc (.cells room2 54)).drewN n) := by
  refine run_convert_bytes_back _ 56 9 5 ⟨V.heap.size, 20, none⟩ 1 [50] Tryd.underlying56 Tryd.underlying5 Tryd.underlying9 fun j hj => ?_
  rw [Addr.add_lit]
  match j, hj with
  | 0, _ => rw [World.cell?_drewN, World.cell?_alloc_at _ _ _ _ rfl]; rfl
theorem str_33 (V : World) (n : Nat) : (convert 56 9 (.slice (some ⟨V.heap.size, 17, none⟩) 4 4)).run Tryd.prog ((V.alloc (.cells room33 54)).drewN n) = .ok (.string ⟨#[48, 46, 51, 51]⟩) ((V.alloc (.cells room33 54)).drewN n) := by
  refine run_convert_bytes_back _ 56 9 5 ⟨V.heap.size, 17, none⟩ 4 [48, 46, 51, 51] Tryd.underlying56 Tryd.underlying5 Tryd.underlying9 fun j hj => ?_
  rw [Addr.add_lit]
  match j, hj with
  | 0, _ => rw [World.cell?_drewN, World.cell?_alloc_at _ _ _ _ rfl]; rfl
  | 1, _ => rw [World.cell?_drewN, World.cell?_alloc_at _ _ _ _ rfl]; rfl
  | 2, _ => rw [World.cell?_drewN, World.cell?_alloc_at _ _ _ _ rfl]; rfl
  | 3, _ => rw [World.cell?_drewN, World.cell?_alloc_at _ _ _ _ rfl]; rfl

set_option maxRecDepth 20000 in
set_option maxHeartbeats 2000000 in
theorem print_2 (w : World) : Calls Tryd.prog 6 #[dv 2 0] w fun e w' => e = .returned (.string ⟨#[50]⟩) ∧ Grew w w' := by
  have R := fun W => right_any 2 0 W
  rw [show rightS 0 = true from rfl] at R
  have M : ∀ W, Calls Tryd.prog 23 #[.int .i64 2] W fun e w' => e = .returned (.int .u64 2) ∧ W = w' := fun W => magnitude_any 2 W (by decide) (by decide)
  have C := str_2
  unfold room2 at C
  go_enter Tryd.func6, Tryd.ntmps6
  go_wp2
  refine wp_scope_passes 0 1 rfl ?_
  go_wp2_with (first
    | (go_at_call 22; refine (R _).mono ?_; rintro e w' ⟨rfl, os, n, rfl⟩)
    | (go_at_call 23; refine (M _).mono ?_; rintro e w' ⟨rfl, rfl⟩))
  apply wp_label
  go_wp2
  simp only [Exit.jump]
  go_ret
  refine ⟨rfl, ?_⟩
  repeat (first | exact Grew.refl _ | apply Grew.drew | apply Grew.drewN | apply Grew.alloc | apply Grew.more)

set_option maxRecDepth 20000 in
set_option maxHeartbeats 2000000 in
theorem print_33 (w : World) : Calls Tryd.prog 6 #[dv 33 2] w fun e w' => e = .returned (.string ⟨#[48, 46, 51, 51]⟩) ∧ Grew w w' := by
  have R := fun W => right_any 33 2 W
  rw [show rightS 2 = true from rfl] at R
  have M : ∀ W, Calls Tryd.prog 23 #[.int .i64 33] W fun e w' => e = .returned (.int .u64 33) ∧ W = w' := fun W => magnitude_any 33 W (by decide) (by decide)
  have C := str_33
  unfold room33 at C
  go_enter Tryd.func6, Tryd.ntmps6
  go_wp2
  refine wp_scope_passes 0 3 rfl ?_
  go_wp2_with (first
    | (go_at_call 22; refine (R _).mono ?_; rintro e w' ⟨rfl, os, n, rfl⟩)
    | (go_at_call 23; refine (M _).mono ?_; rintro e w' ⟨rfl, rfl⟩))
  apply wp_label
  go_wp2
  apply wp_goto
  refine ⟨rfl, ?_⟩
  unfold passes
  go_wp2
  apply wp_goto
  refine ⟨rfl, ?_⟩
  unfold passes
  go_wp2
  simp only [Exit.jump]
  go_ret
  refine ⟨rfl, ?_⟩
  repeat (first | exact Grew.refl _ | apply Grew.drew | apply Grew.drewN | apply Grew.alloc | apply Grew.more)
end Go.Proofs.YtncpkdgpijempaaDoor
