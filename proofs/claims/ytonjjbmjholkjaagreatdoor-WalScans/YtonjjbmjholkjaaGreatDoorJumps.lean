/-
  A scope that is entered ahead of its one label and jumps back to it: what holds at the label each time, and a measure. Nothing of the program is in it.
-/
import Derived.ScopeJumps
import Derived.Tactics
namespace Go.Proofs.YtonjjbmjholkjaaGreatDoor

theorem wp_scope_lab {P : Program} {a : Act} {w : World} {Q : Exit → Act → World → Prop} {pre rest : Code} (l : Nat) (J : Act → World → Prop) (μ : Act → World → Nat)
    (hf : findLabel (pre.seq ((Code.label l).seq rest)) l = some (Code.skip.seq rest))
    (start : pre.wp P (Exit.then J (Exit.jump l J Q)) a w)
    (pass : ∀ a w, J a w → rest.wp P (Exit.jump l (fun a' w' => J a' w' ∧ μ a' w' < μ a w) Q) a w) :
    (Code.scope (pre.seq ((Code.label l).seq rest))).wp P Q a w := by
  refine wp_scope_jumps l J μ hf ?_ fun a w h => wp_seq (wp_skip (pass a w h))
  apply wp_seq
  refine wp_mono start fun e a1 w1 h1 => ?_
  cases e with
  | normal =>
    apply wp_seq
    apply wp_label
    refine wp_mono (pass a1 w1 h1) fun e2 a2 w2 h2 => ?_
    cases e2 with
    | goto l' => exact ⟨h2.1, h2.2.1⟩
    | _ => exact h2
  | _ => exact h1
end Go.Proofs.YtonjjbmjholkjaaGreatDoor
