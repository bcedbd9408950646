/-
  The document's Parse, at any text: what the program's answers.
-/
import Derived.Test.YtncpkdgpijempaaDoorDRefP0
import Derived.Test.YtncpkdgpijempaaDoorDRefP1
namespace Go.Proofs.YtncpkdgpijempaaDoor
open Go.RowKit
attribute [local go_sem] cell?_more frozen?_more setCell_more more_lt more_more more_drew more_drewN setCell_drewN alloc_drewN
attribute [local go_sem] undef

theorem rparse_none (w : World) : Calls Tryd.prog 5 #[.string ⟨#[]⟩] w fun e w' => e = .returned (.tuple #[dv 0 0, .int .i64 21]) ∧ Grew w w' := by
  go_enter Tryd.func5, Tryd.ntmps5
  go_wp2_with fail
  go_loopw [6, 7, 8] (fun sp sn si wr => sp = .int .i64 (-1) ∧ sn = .int .i64 0 ∧ si = .int .i64 0 ∧ ((w.alloc (Obj.cells #[Value.int IntKind.i64 0, Value.int IntKind.i64 0] 23)).alloc (Obj.cells #[Value.int IntKind.u64 0, Value.int IntKind.u64 0, Value.int IntKind.u64 0, Value.int IntKind.u64 0, Value.int IntKind.u64 0, Value.int IntKind.u64 0, Value.bool false] 49)) = wr) (fun _ _ _ _ => 0)
  case atStart => exact ⟨rfl, rfl, rfl, rfl⟩
  case round =>
    obtain ⟨rfl, rfl, rfl, rfl⟩ := hrel
    go_wp2_with fail
    try go_region
    all_goals try go_wp2_with fail
    all_goals refine bodyPost_ret_by (v := .tuple #[dv 0 0, .int .i64 21]) ?_ rfl ⟨rfl, ?_⟩
    all_goals first
      | (simp [results, Tryd.results5, go_sem]; done)
      | (repeat (first | assumption | exact Grew.refl _ | apply Grew.drew | apply Grew.drewN | apply Grew.alloc | apply Grew.more))
theorem rparse_sign (w : World) : Calls Tryd.prog 5 #[.string ⟨#[45]⟩] w fun e w' => e = .returned (.tuple #[dv 0 0, .int .i64 21]) ∧ Grew w w' := by
  go_enter Tryd.func5, Tryd.ntmps5
  go_wp2_with fail
  go_loopw [6, 7, 8] (fun sp sn si wr => sp = .int .i64 (-1) ∧ sn = .int .i64 0 ∧ si = .int .i64 1 ∧ ((w.alloc (Obj.cells #[Value.int IntKind.i64 0, Value.int IntKind.i64 0] 23)).alloc (Obj.cells #[Value.int IntKind.u64 0, Value.int IntKind.u64 0, Value.int IntKind.u64 0, Value.int IntKind.u64 0, Value.int IntKind.u64 0, Value.int IntKind.u64 0, Value.bool false] 49)) = wr) (fun _ _ _ _ => 0)
  case atStart => exact ⟨rfl, rfl, rfl, rfl⟩
  case round =>
    obtain ⟨rfl, rfl, rfl, rfl⟩ := hrel
    go_wp2_with fail
    try go_region
    all_goals try go_wp2_with fail
    all_goals refine bodyPost_ret_by (v := .tuple #[dv 0 0, .int .i64 21]) ?_ rfl ⟨rfl, ?_⟩
    all_goals first
      | (simp [results, Tryd.results5, go_sem]; done)
      | (repeat (first | assumption | exact Grew.refl _ | apply Grew.drew | apply Grew.drewN | apply Grew.alloc | apply Grew.more))

theorem rparse_all (t : List UInt8) (w : World) (ht : t.length ≤ 140737488351232) : Calls Tryd.prog 5 #[.string ⟨t.toArray⟩] w fun e w' => e = .returned (PV t) ∧ Grew w w' := by
  match t, ht with
  | [], _ =>
    have e : PV [] = .tuple #[dv 0 0, .int .i64 21] := by rw [← scan_PV [] 0 rfl]; rfl
    rw [e]
    exact rparse_none w
  | c :: t', ht =>
    by_cases hc : c = 45
    · subst hc
      match t', ht with
      | [], _ =>
        have e : PV [45] = .tuple #[dv 0 0, .int .i64 21] := by rw [← scan_PV [45] 1 rfl]; rfl
        rw [e]
        exact rparse_sign w
      | c0 :: t'', ht =>
        rw [← scan_PV (45 :: c0 :: t'') 1 rfl]
        exact rparse_minus _ w ht c0 t'' rfl
    · rw [← scan_PV (c :: t') 0 (by simp [hc])]
      exact rparse_plus _ w ht c t' rfl hc
end Go.Proofs.YtncpkdgpijempaaDoor
