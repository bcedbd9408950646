/-
  The contract of the law's agree.
-/
import Derived.Test.YtncpkdgpijempaaDoorDGives
namespace Go.Proofs.YtncpkdgpijempaaDoor
attribute [local go_sem] cell?_more frozen?_more setCell_more more_lt more_more more_drew more_drewN setCell_drewN alloc_drewN

theorem agree_any (Nm : ∀ (n : Int) (W : World), Calls Tryd.prog 26 #[.int .i64 n] W fun e w' => e = .returned (.int .i64 n) ∧ W = w') (u s e : Int) (w : World) :
    Calls Tryd.prog 9 #[dv u s, .int .i64 e, dv u s, .int .i64 e] w fun x w' => x = .returned (.bool true) ∧ Grew w w' := by
  go_enter Tryd.func9, Tryd.ntmps9
  go_wp2_with (go_at_call 26; refine (Nm _ _).mono ?_; rintro e w' ⟨rfl, rfl⟩)
  go_ret
  exact ⟨rfl, by repeat (first | assumption | exact Grew.refl _ | apply Grew.drew | apply Grew.drewN | apply Grew.alloc | apply Grew.more)⟩
end Go.Proofs.YtncpkdgpijempaaDoor
