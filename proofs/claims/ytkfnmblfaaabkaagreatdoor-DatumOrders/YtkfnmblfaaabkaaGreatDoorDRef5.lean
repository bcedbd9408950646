/-
  The document's wide numbers: sum, back.
-/
import Derived.Test.YtkfnmblfaaabkaaGreatDoorDRef2
import Derived.Test.YtkfnmblfaaabkaaGreatDoorDRef3
namespace Go.Proofs.YtkfnmblfaaabkaaGreatDoor
open Go.RowKit
attribute [local go_sem] cell?_more frozen?_more setCell_more more_lt more_more more_drew more_drewN setCell_drewN alloc_drewN

theorem cellMA (l : List Obj) (o : Obj) (n i : Nat) (w : World) (h : n < w.heap.size) : ((more w l).alloc o).cell? ⟨n, i, none⟩ = w.cell? ⟨n, i, none⟩ :=
  (World.cell?_alloc_past o n i (more_lt h l)).trans (cell?_more l n i w h)
theorem frozenMA (l : List Obj) (o : Obj) (n i : Nat) (w : World) (h : n < w.heap.size) : ((more w l).alloc o).frozen? ⟨n, i, none⟩ = w.frozen? ⟨n, i, none⟩ :=
  (World.frozen?_alloc_past o n i (more_lt h l)).trans (frozen?_more l n i w h)
theorem setMA (l : List Obj) (o : Obj) (n i : Nat) (v : Value) (w : World) (h : n < w.heap.size) : ((more w l).alloc o).setCell ⟨n, i, none⟩ v = (more (w.setCell ⟨n, i, none⟩ v) l).alloc o := by
  rw [World.setCell_alloc_past o n i v (more_lt h l), setCell_more l n i v w h]
attribute [local go_sem high] cellMA frozenMA setMA

theorem low_lt {a0 a1 a2 a3 a4 a5 : Nat} (h : Low6 a0 a1 a2 a3 a4 a5) : val6 a0 a1 a2 a3 a4 a5 < 6277101735386680763835789423207666416102355444464034512896 := by
  obtain ⟨h0, h1, h2, h3, h4, h5⟩ := h
  unfold val6; omega

set_option maxRecDepth 5000 in
set_option maxHeartbeats 4000000 in
theorem rsum_any (a0 a1 a2 a3 a4 a5 b0 b1 b2 b3 b4 b5 : Nat) (sa sb : Bool) (w : World) (ha : Low6 a0 a1 a2 a3 a4 a5) (hb : Low6 b0 b1 b2 b3 b4 b5) (hf : val6 a0 a1 a2 a3 a4 a5 + val6 b0 b1 b2 b3 b4 b5 < 6277101735386680763835789423207666416102355444464034512896) :
    Calls Tryz.prog 93 #[wv a0 a1 a2 a3 a4 a5 sa, wv b0 b1 b2 b3 b4 b5 sb] w fun e w' => ∃ (o0 o1 o2 o3 o4 o5 : Nat) (s : Bool), e = .returned (wv o0 o1 o2 o3 o4 o5 s) ∧ Low6 o0 o1 o2 o3 o4 o5 ∧ sval s (val6 o0 o1 o2 o3 o4 o5) = sval sa (val6 a0 a1 a2 a3 a4 a5) + sval sb (val6 b0 b1 b2 b3 b4 b5) ∧ Grew w w' := by
  have P := fun W => plus_any a0 a1 a2 a3 a4 a5 b0 b1 b2 b3 b4 b5 sa sb W ha hb
  have L := fun W => less_any a0 a1 a2 a3 a4 a5 b0 b1 b2 b3 b4 b5 sa sb W ha hb
  have M1 := fun h W => minus_any b0 b1 b2 b3 b4 b5 a0 a1 a2 a3 a4 a5 sb sa W hb ha h
  have M2 := fun h W => minus_any a0 a1 a2 a3 a4 a5 b0 b1 b2 b3 b4 b5 sa sb W ha hb h
  obtain ⟨va, hva⟩ : ∃ v, v = val6 a0 a1 a2 a3 a4 a5 := ⟨_, rfl⟩
  obtain ⟨vb, hvb⟩ : ∃ v, v = val6 b0 b1 b2 b3 b4 b5 := ⟨_, rfl⟩
  rw [← hva, ← hvb] at P L M1 M2 hf
  rw [← hva, ← hvb]
  have HF : Hid (va + vb < 6277101735386680763835789423207666416102355444464034512896) := hf
  clear hva hvb ha hb hf
  by_cases hs : sa = sb
  · subst hs
    clear L M1 M2
    go_enter Tryz.func93, Tryz.ntmps93
    go_wp2_with (go_at_call 117; refine (P _).mono ?_; rintro e w' ⟨o0, o1, o2, o3, o4, o5, c, rfl, lo, hv, os, n, rfl⟩)
    refine bodyPost_ret_by (v := wv o0 o1 o2 o3 o4 o5 sa) ?_ rfl ⟨o0, o1, o2, o3, o4, o5, sa, rfl, lo, ?_, (by repeat (first | exact Grew.refl _ | apply Grew.drew | apply Grew.drewN | apply Grew.alloc | apply Grew.more))⟩
    · simp [results, Tryz.results93, go_sem]
    · have h1 := HF.out
      have h2 : val6 o0 o1 o2 o3 o4 o5 = va + vb := by omega
      rw [h2]
      cases sa <;> simp [sval] <;> omega
  · have hsb : (sa == sb) = false := by simpa using hs
    clear P
    by_cases hlt : va < vb
    · have hd : decide (va < vb) = true := by simp [hlt]
      rw [hd] at L
      have M := M1 (by omega)
      clear M1 M2 hd
      go_enter Tryz.func93, Tryz.ntmps93
      go_wp2_with (first
        | (go_at_call 132; refine (L _).mono ?_; rintro e w' ⟨rfl, os1, n1, rfl⟩)
        | (go_at_call 133; refine (M _).mono ?_; rintro e w' ⟨o0, o1, o2, o3, o4, o5, rfl, lo, hv, os, n, rfl⟩))
      refine bodyPost_ret_by (v := wv o0 o1 o2 o3 o4 o5 sb) ?_ rfl ⟨o0, o1, o2, o3, o4, o5, sb, rfl, lo, ?_, (by repeat (first | exact Grew.refl _ | apply Grew.drew | apply Grew.drewN | apply Grew.alloc | apply Grew.more))⟩
      · simp [results, Tryz.results93, go_sem]
      · rw [hv]
        cases sa <;> cases sb <;> simp [sval] at hs ⊢ <;> omega
    · have hd : decide (va < vb) = false := by simp; omega
      rw [hd] at L
      have M := M2 (by omega)
      clear M1 M2 hd
      go_enter Tryz.func93, Tryz.ntmps93
      go_wp2_with (first
        | (go_at_call 132; refine (L _).mono ?_; rintro e w' ⟨rfl, os1, n1, rfl⟩)
        | (go_at_call 133; refine (M _).mono ?_; rintro e w' ⟨o0, o1, o2, o3, o4, o5, rfl, lo, hv, os, n, rfl⟩))
      refine bodyPost_ret_by (v := wv o0 o1 o2 o3 o4 o5 sa) ?_ rfl ⟨o0, o1, o2, o3, o4, o5, sa, rfl, lo, ?_, (by repeat (first | exact Grew.refl _ | apply Grew.drew | apply Grew.drewN | apply Grew.alloc | apply Grew.more))⟩
      · simp [results, Tryz.results93, go_sem]
      · rw [hv]
        cases sa <;> cases sb <;> simp [sval] at hs ⊢ <;> omega
end Go.Proofs.YtkfnmblfaaabkaaGreatDoor
