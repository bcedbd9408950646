/-
  The document's Parse, path by path: its text is another.
-/
import Derived.Test.YtibbenhplmmmiaaGreatDoorLRParse
namespace Go.Proofs.YtibbenhplmmmiaaGreatDoor.Dt
open Go.RowKit Go.Shelf
attribute [local go_sem] cell?_more frozen?_more setCell_more more_lt more_more more_drew more_drewN setCell_drewN alloc_drewN

set_option maxRecDepth 20000 in
set_option maxHeartbeats 4000000 in
theorem rpC1n (t q : List UInt8) (S : ByteArray) (c0 cl : UInt8) (U V E : Int) (w : World) (hS : S.size = t.length) (hq : (q == S.toList) = false) (h1 : 1 ≤ t.length) (ht : t.length ≤ 140737488351232)
    (n0 : S.toList.isEmpty = false) (_n1 : (S.toList == [110, 117, 108, 108]) = false) (n2 : (S.toList == [116, 114, 117, 101]) = false) (n3 : (S.toList == [102, 97, 108, 115, 101]) = false)
    (_hg0 : ∀ h, S[0]'h = c0) (_hgl : ∀ h, S[t.length - 1]'h = cl) (h39 : ((c0.toNat : Int) == 39) = false) (h60 : ((c0.toNat : Int) == 60) = false) (h46 : ((cl.toNat : Int) == 46) = false) (h2 : 2 ≤ t.length) (hV : ¬ (0 : Int) < V) (D : ∀ W, Calls Tryz.prog 33 #[.string S] W fun e w' => e = .returned (.tuple #[dv U V, .int .i64 E]) ∧ Below W.heap.size W w')
    (P : ∀ W, Calls Tryz.prog 9 #[va  1  U  0 ⟨#[]⟩] W fun e w' => e = .returned (.string ⟨q.toArray⟩) ∧ Below W.heap.size W w') :
    Calls Tryz.prog 7 #[.string S] w fun e w' => e = .returned (.tuple #[va 0 0 0 ⟨#[]⟩, .int .i64 21]) ∧ Below w.heap.size w w' := by
  have h1' : (1 : Int) ≤ (t.length : Int) := by omega
  have ht' : (t.length : Int) ≤ 140737488351232 := by omega
  have Z0 : Cbox ((w.alloc (.cells #[.int .i64 0, .int .i64 0, .int .i64 0, .string ⟨#[]⟩] 23)).alloc (.cells #[.int .i64 0, .int .i64 0, .int .i64 0, .string ⟨#[]⟩] 23)) w.heap.size #[.int .i64 0, .int .i64 0, .int .i64 0, .string ⟨#[]⟩] 23 := (Cbox.new w _ _).later ((Below.refl _ _).alloc (Nat.le_refl _) _)
  have Z1 : Cbox ((w.alloc (.cells #[.int .i64 0, .int .i64 0, .int .i64 0, .string ⟨#[]⟩] 23)).alloc (.cells #[.int .i64 0, .int .i64 0, .int .i64 0, .string ⟨#[]⟩] 23)) (w.heap.size + 1) #[.int .i64 0, .int .i64 0, .int .i64 0, .string ⟨#[]⟩] 23 := by
    have := Cbox.new (w.alloc (.cells #[.int .i64 0, .int .i64 0, .int .i64 0, .string ⟨#[]⟩] 23)) #[.int .i64 0, .int .i64 0, .int .i64 0, .string ⟨#[]⟩] 23
    rwa [World.size_alloc] at this
  have h2' : (2 : Int) ≤ (t.length : Int) := by omega
  have h3 : ((t.length : Int) - 1).toNat = t.length - 1 := by omega
  have h4 : (0 : Int) ≤ (t.length : Int) - 1 := by omega
  go_enter Tryz.func7, Tryz.ntmps7
  go_wp2_with (go_at_call 33; refine (D _).mono ?_; rintro e w1 ⟨rfl, b1⟩; have Zr : Cbox w1 w.heap.size #[.int .i64 0, .int .i64 0, .int .i64 0, .string ⟨#[]⟩] 23 := Z0.later b1; have Zv : Cbox w1 (w.heap.size + 1) #[.int .i64 0, .int .i64 0, .int .i64 0, .string ⟨#[]⟩] 23 := Z1.later b1; have r0 := Zr.at 0; have v0 := Zv.at 0; have fr0 := Zr.free 0; have fv0 := Zv.free 0; have r1 := Zr.at 1; have v1 := Zv.at 1; have fr1 := Zr.free 1; have fv1 := Zv.free 1; have r2 := Zr.at 2; have v2 := Zv.at 2; have fr2 := Zr.free 2; have fv2 := Zv.free 2; have r3 := Zr.at 3; have v3 := Zv.at 3; have fr3 := Zr.free 3; have fv3 := Zv.free 3; have ltr := Zr.lt; have ltv := Zv.lt; have B1 : Below w.heap.size w w1 := (((Below.refl _ w).alloc (Nat.le_refl _) _).alloc (by simp) _).trans (b1.mono (by simp; omega)); have hs1 := B1.size; clear Zr Zv)
  refine (P _).mono ?_
  rintro e w2 ⟨rfl, b2⟩
  have R0 : w2.cell? ⟨w.heap.size, 0, none⟩ = some (.int .i64 0) := (b2.cell (p := ⟨w.heap.size, 0, none⟩) (by simp; omega)).trans (by simp [go_sem, *])
  have V0 : w2.cell? ⟨w.heap.size + 1, 0, none⟩ = some (.int .i64 1) := (b2.cell (p := ⟨w.heap.size + 1, 0, none⟩) (by simp; omega)).trans (by simp [go_sem, *])
  have F0 : w2.frozen? ⟨w.heap.size, 0, none⟩ = false := (b2.frozen (p := ⟨w.heap.size, 0, none⟩) (by simp; omega)).trans (by simp [go_sem, *])
  have R1 : w2.cell? ⟨w.heap.size, 1, none⟩ = some (.int .i64 0) := (b2.cell (p := ⟨w.heap.size, 1, none⟩) (by simp; omega)).trans (by simp [go_sem, *])
  have V1 : w2.cell? ⟨w.heap.size + 1, 1, none⟩ = some (.int .i64 U) := (b2.cell (p := ⟨w.heap.size + 1, 1, none⟩) (by simp; omega)).trans (by simp [go_sem, *])
  have F1 : w2.frozen? ⟨w.heap.size, 1, none⟩ = false := (b2.frozen (p := ⟨w.heap.size, 1, none⟩) (by simp; omega)).trans (by simp [go_sem, *])
  have R2 : w2.cell? ⟨w.heap.size, 2, none⟩ = some (.int .i64 0) := (b2.cell (p := ⟨w.heap.size, 2, none⟩) (by simp; omega)).trans (by simp [go_sem, *])
  have V2 : w2.cell? ⟨w.heap.size + 1, 2, none⟩ = some (.int .i64 0) := (b2.cell (p := ⟨w.heap.size + 1, 2, none⟩) (by simp; omega)).trans (by simp [go_sem, *])
  have F2 : w2.frozen? ⟨w.heap.size, 2, none⟩ = false := (b2.frozen (p := ⟨w.heap.size, 2, none⟩) (by simp; omega)).trans (by simp [go_sem, *])
  have R3 : w2.cell? ⟨w.heap.size, 3, none⟩ = some (.string ⟨#[]⟩) := (b2.cell (p := ⟨w.heap.size, 3, none⟩) (by simp; omega)).trans (by simp [go_sem, *])
  have V3 : w2.cell? ⟨w.heap.size + 1, 3, none⟩ = some (.string ⟨#[]⟩) := (b2.cell (p := ⟨w.heap.size + 1, 3, none⟩) (by simp; omega)).trans (by simp [go_sem, *])
  have F3 : w2.frozen? ⟨w.heap.size, 3, none⟩ = false := (b2.frozen (p := ⟨w.heap.size, 3, none⟩) (by simp; omega)).trans (by simp [go_sem, *])
  have B2 : Below w.heap.size w w2 := by (refine Below.trans ?_ (Below.mono b2 (by simp; omega)); repeat (first | with_reducible exact B1 | with_reducible refine bl_set ?_ _ | with_reducible refine Below.drew ?_ | with_reducible refine Below.alloc ?_ (by simp; omega) _ | with_reducible refine bl_set2 ?_ (by omega) _))
  have lt2 : w.heap.size < w2.heap.size := by have := b2.size; simp at this; omega
  clear b2 B1 hs1 r0 r1 r2 r3 v0 v1 v2 v3 fr0 fr1 fr2 fr3 fv0 fv1 fv2 fv3 ltr ltv
  go_wp2
  refine bodyPost_ret_by (v := .tuple #[va 0 0 0 ⟨#[]⟩, .int .i64 21]) ?_ rfl ⟨rfl, ?_⟩
  · simp [results, Tryz.results7, go_sem, R0, R1, R2, R3]
  · repeat (first | with_reducible exact B2 | with_reducible refine bl_set ?_ _)

set_option maxRecDepth 20000 in
set_option maxHeartbeats 4000000 in
theorem rpC2n (t q : List UInt8) (S : ByteArray) (c0 cl : UInt8) (U V E : Int) (w : World) (hS : S.size = t.length) (hq : (q == S.toList) = false) (h1 : 1 ≤ t.length) (ht : t.length ≤ 140737488351232)
    (n0 : S.toList.isEmpty = false) (_n1 : (S.toList == [110, 117, 108, 108]) = false) (n2 : (S.toList == [116, 114, 117, 101]) = false) (n3 : (S.toList == [102, 97, 108, 115, 101]) = false)
    (_hg0 : ∀ h, S[0]'h = c0) (_hgl : ∀ h, S[t.length - 1]'h = cl) (h39 : ((c0.toNat : Int) == 39) = false) (h60 : ((c0.toNat : Int) == 60) = false) (h46 : ((cl.toNat : Int) == 46) = false) (h2 : 2 ≤ t.length) (hV : (0 : Int) < V) (D : ∀ W, Calls Tryz.prog 33 #[.string S] W fun e w' => e = .returned (.tuple #[dv U V, .int .i64 E]) ∧ Below W.heap.size W w')
    (P : ∀ W, Calls Tryz.prog 9 #[va  2  U  V ⟨#[]⟩] W fun e w' => e = .returned (.string ⟨q.toArray⟩) ∧ Below W.heap.size W w') :
    Calls Tryz.prog 7 #[.string S] w fun e w' => e = .returned (.tuple #[va 0 0 0 ⟨#[]⟩, .int .i64 21]) ∧ Below w.heap.size w w' := by
  have h1' : (1 : Int) ≤ (t.length : Int) := by omega
  have ht' : (t.length : Int) ≤ 140737488351232 := by omega
  have Z0 : Cbox ((w.alloc (.cells #[.int .i64 0, .int .i64 0, .int .i64 0, .string ⟨#[]⟩] 23)).alloc (.cells #[.int .i64 0, .int .i64 0, .int .i64 0, .string ⟨#[]⟩] 23)) w.heap.size #[.int .i64 0, .int .i64 0, .int .i64 0, .string ⟨#[]⟩] 23 := (Cbox.new w _ _).later ((Below.refl _ _).alloc (Nat.le_refl _) _)
  have Z1 : Cbox ((w.alloc (.cells #[.int .i64 0, .int .i64 0, .int .i64 0, .string ⟨#[]⟩] 23)).alloc (.cells #[.int .i64 0, .int .i64 0, .int .i64 0, .string ⟨#[]⟩] 23)) (w.heap.size + 1) #[.int .i64 0, .int .i64 0, .int .i64 0, .string ⟨#[]⟩] 23 := by
    have := Cbox.new (w.alloc (.cells #[.int .i64 0, .int .i64 0, .int .i64 0, .string ⟨#[]⟩] 23)) #[.int .i64 0, .int .i64 0, .int .i64 0, .string ⟨#[]⟩] 23
    rwa [World.size_alloc] at this
  have h2' : (2 : Int) ≤ (t.length : Int) := by omega
  have h3 : ((t.length : Int) - 1).toNat = t.length - 1 := by omega
  have h4 : (0 : Int) ≤ (t.length : Int) - 1 := by omega
  go_enter Tryz.func7, Tryz.ntmps7
  go_upto_region 18 with (go_at_call 33; refine (D _).mono ?_; rintro e w1 ⟨rfl, b1⟩; have Zr : Cbox w1 w.heap.size #[.int .i64 0, .int .i64 0, .int .i64 0, .string ⟨#[]⟩] 23 := Z0.later b1; have Zv : Cbox w1 (w.heap.size + 1) #[.int .i64 0, .int .i64 0, .int .i64 0, .string ⟨#[]⟩] 23 := Z1.later b1; have r0 := Zr.at 0; have v0 := Zv.at 0; have fr0 := Zr.free 0; have fv0 := Zv.free 0; have r1 := Zr.at 1; have v1 := Zv.at 1; have fr1 := Zr.free 1; have fv1 := Zv.free 1; have r2 := Zr.at 2; have v2 := Zv.at 2; have fr2 := Zr.free 2; have fv2 := Zv.free 2; have r3 := Zr.at 3; have v3 := Zv.at 3; have fr3 := Zr.free 3; have fv3 := Zv.free 3; have ltr := Zr.lt; have ltv := Zv.lt; have B1 : Below w.heap.size w w1 := (((Below.refl _ w).alloc (Nat.le_refl _) _).alloc (by simp) _).trans (b1.mono (by simp; omega)); have hs1 := B1.size; clear Zr Zv)
  obtain ⟨X, hX⟩ : ∃ X, X = ((((w1.setCell ⟨w.heap.size + 1, 0, none⟩ (.int .i64 1)).setCell ⟨w.heap.size + 1, 1, none⟩ (.int .i64 U)).setCell ⟨w.heap.size + 1, 2, none⟩ (.int .i64 0)).setCell ⟨w.heap.size + 1, 3, none⟩ (.string ⟨#[]⟩)).alloc (.cells #[.int .i64 U, .int .i64 V] 72) := ⟨_, rfl⟩
  have a0 : X.cell? ⟨w.heap.size, 0, none⟩ = some (.int .i64 0) := by rw [hX]; simp [go_sem, *]
  have e0 : X.cell? ⟨w.heap.size + 1, 0, none⟩ = some (.int .i64 1) := by rw [hX]; simp [go_sem, *]
  have fa0 : X.frozen? ⟨w.heap.size, 0, none⟩ = false := by rw [hX]; simp [go_sem, *]
  have fe0 : X.frozen? ⟨w.heap.size + 1, 0, none⟩ = false := by rw [hX]; simp [go_sem, *]
  have a1 : X.cell? ⟨w.heap.size, 1, none⟩ = some (.int .i64 0) := by rw [hX]; simp [go_sem, *]
  have e1 : X.cell? ⟨w.heap.size + 1, 1, none⟩ = some (.int .i64 U) := by rw [hX]; simp [go_sem, *]
  have fa1 : X.frozen? ⟨w.heap.size, 1, none⟩ = false := by rw [hX]; simp [go_sem, *]
  have fe1 : X.frozen? ⟨w.heap.size + 1, 1, none⟩ = false := by rw [hX]; simp [go_sem, *]
  have a2 : X.cell? ⟨w.heap.size, 2, none⟩ = some (.int .i64 0) := by rw [hX]; simp [go_sem, *]
  have e2 : X.cell? ⟨w.heap.size + 1, 2, none⟩ = some (.int .i64 0) := by rw [hX]; simp [go_sem, *]
  have fa2 : X.frozen? ⟨w.heap.size, 2, none⟩ = false := by rw [hX]; simp [go_sem, *]
  have fe2 : X.frozen? ⟨w.heap.size + 1, 2, none⟩ = false := by rw [hX]; simp [go_sem, *]
  have a3 : X.cell? ⟨w.heap.size, 3, none⟩ = some (.string ⟨#[]⟩) := by rw [hX]; simp [go_sem, *]
  have e3 : X.cell? ⟨w.heap.size + 1, 3, none⟩ = some (.string ⟨#[]⟩) := by rw [hX]; simp [go_sem, *]
  have fa3 : X.frozen? ⟨w.heap.size, 3, none⟩ = false := by rw [hX]; simp [go_sem, *]
  have fe3 : X.frozen? ⟨w.heap.size + 1, 3, none⟩ = false := by rw [hX]; simp [go_sem, *]
  have d0 : X.cell? ⟨w1.heap.size, 0, none⟩ = some (.int .i64 U) := by rw [hX]; simp [go_sem, *]
  have d1 : X.cell? ⟨w1.heap.size, 1, none⟩ = some (.int .i64 V) := by rw [hX]; simp [go_sem, *]
  have BX : Below w.heap.size w X := by (rw [hX]; repeat (first | with_reducible exact B1 | with_reducible refine bl_set ?_ _ | with_reducible refine Below.drew ?_ | with_reducible refine Below.alloc ?_ (by simp; omega) _ | with_reducible refine bl_set2 ?_ (by omega) _))
  have hsX : X.heap.size = w1.heap.size + 1 := by rw [hX]; simp
  have ltX : w.heap.size < X.heap.size := by omega
  have ltX2 : w.heap.size + 1 < X.heap.size := by omega
  show Code.wp _ _ _ _ (((((w1.setCell ⟨w.heap.size + 1, 0, none⟩ (.int .i64 1)).setCell ⟨w.heap.size + 1, 1, none⟩ (.int .i64 U)).setCell ⟨w.heap.size + 1, 2, none⟩ (.int .i64 0)).setCell ⟨w.heap.size + 1, 3, none⟩ (.string ⟨#[]⟩)).alloc (.cells #[.int .i64 U, .int .i64 V] 72))
  rw [← hX]
  clear hX r0 r1 r2 r3 v0 v1 v2 v3 fr0 fr1 fr2 fr3 fv0 fv1 fv2 fv3 B1 hs1
  have r0 := a0
  have r1 := a1
  have r2 := a2
  have r3 := a3
  have v0 := e0
  have v1 := e1
  have v2 := e2
  have v3 := e3
  have fr0 := fa0
  have fr1 := fa1
  have fr2 := fa2
  have fr3 := fa3
  have fv0 := fe0
  have fv1 := fe1
  have fv2 := fe2
  have fv3 := fe3
  have B1 := BX
  have hs1 := BX.size
  clear a0 a1 a2 a3 e0 e1 e2 e3 fa0 fa1 fa2 fa3 fe0 fe1 fe2 fe3 BX
  go_wp2_with fail
  refine (P _).mono ?_
  rintro e w2 ⟨rfl, b2⟩
  have R0 : w2.cell? ⟨w.heap.size, 0, none⟩ = some (.int .i64 0) := (b2.cell (p := ⟨w.heap.size, 0, none⟩) (by simp; omega)).trans (by simp [go_sem, *])
  have V0 : w2.cell? ⟨w.heap.size + 1, 0, none⟩ = some (.int .i64 2) := (b2.cell (p := ⟨w.heap.size + 1, 0, none⟩) (by simp; omega)).trans (by simp [go_sem, *])
  have F0 : w2.frozen? ⟨w.heap.size, 0, none⟩ = false := (b2.frozen (p := ⟨w.heap.size, 0, none⟩) (by simp; omega)).trans (by simp [go_sem, *])
  have R1 : w2.cell? ⟨w.heap.size, 1, none⟩ = some (.int .i64 0) := (b2.cell (p := ⟨w.heap.size, 1, none⟩) (by simp; omega)).trans (by simp [go_sem, *])
  have V1 : w2.cell? ⟨w.heap.size + 1, 1, none⟩ = some (.int .i64 U) := (b2.cell (p := ⟨w.heap.size + 1, 1, none⟩) (by simp; omega)).trans (by simp [go_sem, *])
  have F1 : w2.frozen? ⟨w.heap.size, 1, none⟩ = false := (b2.frozen (p := ⟨w.heap.size, 1, none⟩) (by simp; omega)).trans (by simp [go_sem, *])
  have R2 : w2.cell? ⟨w.heap.size, 2, none⟩ = some (.int .i64 0) := (b2.cell (p := ⟨w.heap.size, 2, none⟩) (by simp; omega)).trans (by simp [go_sem, *])
  have V2 : w2.cell? ⟨w.heap.size + 1, 2, none⟩ = some (.int .i64 V) := (b2.cell (p := ⟨w.heap.size + 1, 2, none⟩) (by simp; omega)).trans (by simp [go_sem, *])
  have F2 : w2.frozen? ⟨w.heap.size, 2, none⟩ = false := (b2.frozen (p := ⟨w.heap.size, 2, none⟩) (by simp; omega)).trans (by simp [go_sem, *])
  have R3 : w2.cell? ⟨w.heap.size, 3, none⟩ = some (.string ⟨#[]⟩) := (b2.cell (p := ⟨w.heap.size, 3, none⟩) (by simp; omega)).trans (by simp [go_sem, *])
  have V3 : w2.cell? ⟨w.heap.size + 1, 3, none⟩ = some (.string ⟨#[]⟩) := (b2.cell (p := ⟨w.heap.size + 1, 3, none⟩) (by simp; omega)).trans (by simp [go_sem, *])
  have F3 : w2.frozen? ⟨w.heap.size, 3, none⟩ = false := (b2.frozen (p := ⟨w.heap.size, 3, none⟩) (by simp; omega)).trans (by simp [go_sem, *])
  have B2 : Below w.heap.size w w2 := by (refine Below.trans ?_ (Below.mono b2 (by simp; omega)); repeat (first | with_reducible exact B1 | with_reducible refine bl_set ?_ _ | with_reducible refine Below.drew ?_ | with_reducible refine Below.alloc ?_ (by simp; omega) _ | with_reducible refine bl_set2 ?_ (by omega) _))
  have lt2 : w.heap.size < w2.heap.size := by have := b2.size; simp at this; omega
  clear b2 B1 hs1 r0 r1 r2 r3 v0 v1 v2 v3 fr0 fr1 fr2 fr3 fv0 fv1 fv2 fv3 ltr ltv
  go_wp2
  refine bodyPost_ret_by (v := .tuple #[va 0 0 0 ⟨#[]⟩, .int .i64 21]) ?_ rfl ⟨rfl, ?_⟩
  · simp [results, Tryz.results7, go_sem, R0, R1, R2, R3]
  · repeat (first | with_reducible exact B2 | with_reducible refine bl_set ?_ _)

set_option maxRecDepth 20000 in
set_option maxHeartbeats 4000000 in
theorem rpD1n (t q : List UInt8) (S : ByteArray) (c0 cl : UInt8) (U V E : Int) (w : World) (hS : S.size = t.length) (hq : (q == S.toList) = false) (h1 : 1 ≤ t.length) (ht : t.length ≤ 140737488351232)
    (n0 : S.toList.isEmpty = false) (_n1 : (S.toList == [110, 117, 108, 108]) = false) (n2 : (S.toList == [116, 114, 117, 101]) = false) (n3 : (S.toList == [102, 97, 108, 115, 101]) = false)
    (_hg0 : ∀ h, S[0]'h = c0) (_hgl : ∀ h, S[t.length - 1]'h = cl) (h2 : ¬ 2 ≤ t.length) (hV : ¬ (0 : Int) < V) (D : ∀ W, Calls Tryz.prog 33 #[.string S] W fun e w' => e = .returned (.tuple #[dv U V, .int .i64 E]) ∧ Below W.heap.size W w')
    (P : ∀ W, Calls Tryz.prog 9 #[va  1  U  0 ⟨#[]⟩] W fun e w' => e = .returned (.string ⟨q.toArray⟩) ∧ Below W.heap.size W w') :
    Calls Tryz.prog 7 #[.string S] w fun e w' => e = .returned (.tuple #[va 0 0 0 ⟨#[]⟩, .int .i64 21]) ∧ Below w.heap.size w w' := by
  have h1' : (1 : Int) ≤ (t.length : Int) := by omega
  have ht' : (t.length : Int) ≤ 140737488351232 := by omega
  have Z0 : Cbox ((w.alloc (.cells #[.int .i64 0, .int .i64 0, .int .i64 0, .string ⟨#[]⟩] 23)).alloc (.cells #[.int .i64 0, .int .i64 0, .int .i64 0, .string ⟨#[]⟩] 23)) w.heap.size #[.int .i64 0, .int .i64 0, .int .i64 0, .string ⟨#[]⟩] 23 := (Cbox.new w _ _).later ((Below.refl _ _).alloc (Nat.le_refl _) _)
  have Z1 : Cbox ((w.alloc (.cells #[.int .i64 0, .int .i64 0, .int .i64 0, .string ⟨#[]⟩] 23)).alloc (.cells #[.int .i64 0, .int .i64 0, .int .i64 0, .string ⟨#[]⟩] 23)) (w.heap.size + 1) #[.int .i64 0, .int .i64 0, .int .i64 0, .string ⟨#[]⟩] 23 := by
    have := Cbox.new (w.alloc (.cells #[.int .i64 0, .int .i64 0, .int .i64 0, .string ⟨#[]⟩] 23)) #[.int .i64 0, .int .i64 0, .int .i64 0, .string ⟨#[]⟩] 23
    rwa [World.size_alloc] at this
  have h2' : ¬ (2 : Int) ≤ (t.length : Int) := by omega
  go_enter Tryz.func7, Tryz.ntmps7
  go_wp2_with (go_at_call 33; refine (D _).mono ?_; rintro e w1 ⟨rfl, b1⟩; have Zr : Cbox w1 w.heap.size #[.int .i64 0, .int .i64 0, .int .i64 0, .string ⟨#[]⟩] 23 := Z0.later b1; have Zv : Cbox w1 (w.heap.size + 1) #[.int .i64 0, .int .i64 0, .int .i64 0, .string ⟨#[]⟩] 23 := Z1.later b1; have r0 := Zr.at 0; have v0 := Zv.at 0; have fr0 := Zr.free 0; have fv0 := Zv.free 0; have r1 := Zr.at 1; have v1 := Zv.at 1; have fr1 := Zr.free 1; have fv1 := Zv.free 1; have r2 := Zr.at 2; have v2 := Zv.at 2; have fr2 := Zr.free 2; have fv2 := Zv.free 2; have r3 := Zr.at 3; have v3 := Zv.at 3; have fr3 := Zr.free 3; have fv3 := Zv.free 3; have ltr := Zr.lt; have ltv := Zv.lt; have B1 : Below w.heap.size w w1 := (((Below.refl _ w).alloc (Nat.le_refl _) _).alloc (by simp) _).trans (b1.mono (by simp; omega)); have hs1 := B1.size; clear Zr Zv)
  refine (P _).mono ?_
  rintro e w2 ⟨rfl, b2⟩
  have R0 : w2.cell? ⟨w.heap.size, 0, none⟩ = some (.int .i64 0) := (b2.cell (p := ⟨w.heap.size, 0, none⟩) (by simp; omega)).trans (by simp [go_sem, *])
  have V0 : w2.cell? ⟨w.heap.size + 1, 0, none⟩ = some (.int .i64 1) := (b2.cell (p := ⟨w.heap.size + 1, 0, none⟩) (by simp; omega)).trans (by simp [go_sem, *])
  have F0 : w2.frozen? ⟨w.heap.size, 0, none⟩ = false := (b2.frozen (p := ⟨w.heap.size, 0, none⟩) (by simp; omega)).trans (by simp [go_sem, *])
  have R1 : w2.cell? ⟨w.heap.size, 1, none⟩ = some (.int .i64 0) := (b2.cell (p := ⟨w.heap.size, 1, none⟩) (by simp; omega)).trans (by simp [go_sem, *])
  have V1 : w2.cell? ⟨w.heap.size + 1, 1, none⟩ = some (.int .i64 U) := (b2.cell (p := ⟨w.heap.size + 1, 1, none⟩) (by simp; omega)).trans (by simp [go_sem, *])
  have F1 : w2.frozen? ⟨w.heap.size, 1, none⟩ = false := (b2.frozen (p := ⟨w.heap.size, 1, none⟩) (by simp; omega)).trans (by simp [go_sem, *])
  have R2 : w2.cell? ⟨w.heap.size, 2, none⟩ = some (.int .i64 0) := (b2.cell (p := ⟨w.heap.size, 2, none⟩) (by simp; omega)).trans (by simp [go_sem, *])
  have V2 : w2.cell? ⟨w.heap.size + 1, 2, none⟩ = some (.int .i64 0) := (b2.cell (p := ⟨w.heap.size + 1, 2, none⟩) (by simp; omega)).trans (by simp [go_sem, *])
  have F2 : w2.frozen? ⟨w.heap.size, 2, none⟩ = false := (b2.frozen (p := ⟨w.heap.size, 2, none⟩) (by simp; omega)).trans (by simp [go_sem, *])
  have R3 : w2.cell? ⟨w.heap.size, 3, none⟩ = some (.string ⟨#[]⟩) := (b2.cell (p := ⟨w.heap.size, 3, none⟩) (by simp; omega)).trans (by simp [go_sem, *])
  have V3 : w2.cell? ⟨w.heap.size + 1, 3, none⟩ = some (.string ⟨#[]⟩) := (b2.cell (p := ⟨w.heap.size + 1, 3, none⟩) (by simp; omega)).trans (by simp [go_sem, *])
  have F3 : w2.frozen? ⟨w.heap.size, 3, none⟩ = false := (b2.frozen (p := ⟨w.heap.size, 3, none⟩) (by simp; omega)).trans (by simp [go_sem, *])
  have B2 : Below w.heap.size w w2 := by (refine Below.trans ?_ (Below.mono b2 (by simp; omega)); repeat (first | with_reducible exact B1 | with_reducible refine bl_set ?_ _ | with_reducible refine Below.drew ?_ | with_reducible refine Below.alloc ?_ (by simp; omega) _ | with_reducible refine bl_set2 ?_ (by omega) _))
  have lt2 : w.heap.size < w2.heap.size := by have := b2.size; simp at this; omega
  clear b2 B1 hs1 r0 r1 r2 r3 v0 v1 v2 v3 fr0 fr1 fr2 fr3 fv0 fv1 fv2 fv3 ltr ltv
  go_wp2
  refine bodyPost_ret_by (v := .tuple #[va 0 0 0 ⟨#[]⟩, .int .i64 21]) ?_ rfl ⟨rfl, ?_⟩
  · simp [results, Tryz.results7, go_sem, R0, R1, R2, R3]
  · repeat (first | with_reducible exact B2 | with_reducible refine bl_set ?_ _)

set_option maxRecDepth 20000 in
set_option maxHeartbeats 4000000 in
theorem rpD2n (t q : List UInt8) (S : ByteArray) (c0 cl : UInt8) (U V E : Int) (w : World) (hS : S.size = t.length) (hq : (q == S.toList) = false) (h1 : 1 ≤ t.length) (ht : t.length ≤ 140737488351232)
    (n0 : S.toList.isEmpty = false) (_n1 : (S.toList == [110, 117, 108, 108]) = false) (n2 : (S.toList == [116, 114, 117, 101]) = false) (n3 : (S.toList == [102, 97, 108, 115, 101]) = false)
    (_hg0 : ∀ h, S[0]'h = c0) (_hgl : ∀ h, S[t.length - 1]'h = cl) (h2 : ¬ 2 ≤ t.length) (hV : (0 : Int) < V) (D : ∀ W, Calls Tryz.prog 33 #[.string S] W fun e w' => e = .returned (.tuple #[dv U V, .int .i64 E]) ∧ Below W.heap.size W w')
    (P : ∀ W, Calls Tryz.prog 9 #[va  2  U  V ⟨#[]⟩] W fun e w' => e = .returned (.string ⟨q.toArray⟩) ∧ Below W.heap.size W w') :
    Calls Tryz.prog 7 #[.string S] w fun e w' => e = .returned (.tuple #[va 0 0 0 ⟨#[]⟩, .int .i64 21]) ∧ Below w.heap.size w w' := by
  have h1' : (1 : Int) ≤ (t.length : Int) := by omega
  have ht' : (t.length : Int) ≤ 140737488351232 := by omega
  have Z0 : Cbox ((w.alloc (.cells #[.int .i64 0, .int .i64 0, .int .i64 0, .string ⟨#[]⟩] 23)).alloc (.cells #[.int .i64 0, .int .i64 0, .int .i64 0, .string ⟨#[]⟩] 23)) w.heap.size #[.int .i64 0, .int .i64 0, .int .i64 0, .string ⟨#[]⟩] 23 := (Cbox.new w _ _).later ((Below.refl _ _).alloc (Nat.le_refl _) _)
  have Z1 : Cbox ((w.alloc (.cells #[.int .i64 0, .int .i64 0, .int .i64 0, .string ⟨#[]⟩] 23)).alloc (.cells #[.int .i64 0, .int .i64 0, .int .i64 0, .string ⟨#[]⟩] 23)) (w.heap.size + 1) #[.int .i64 0, .int .i64 0, .int .i64 0, .string ⟨#[]⟩] 23 := by
    have := Cbox.new (w.alloc (.cells #[.int .i64 0, .int .i64 0, .int .i64 0, .string ⟨#[]⟩] 23)) #[.int .i64 0, .int .i64 0, .int .i64 0, .string ⟨#[]⟩] 23
    rwa [World.size_alloc] at this
  have h2' : ¬ (2 : Int) ≤ (t.length : Int) := by omega
  go_enter Tryz.func7, Tryz.ntmps7
  go_upto_region 18 with (go_at_call 33; refine (D _).mono ?_; rintro e w1 ⟨rfl, b1⟩; have Zr : Cbox w1 w.heap.size #[.int .i64 0, .int .i64 0, .int .i64 0, .string ⟨#[]⟩] 23 := Z0.later b1; have Zv : Cbox w1 (w.heap.size + 1) #[.int .i64 0, .int .i64 0, .int .i64 0, .string ⟨#[]⟩] 23 := Z1.later b1; have r0 := Zr.at 0; have v0 := Zv.at 0; have fr0 := Zr.free 0; have fv0 := Zv.free 0; have r1 := Zr.at 1; have v1 := Zv.at 1; have fr1 := Zr.free 1; have fv1 := Zv.free 1; have r2 := Zr.at 2; have v2 := Zv.at 2; have fr2 := Zr.free 2; have fv2 := Zv.free 2; have r3 := Zr.at 3; have v3 := Zv.at 3; have fr3 := Zr.free 3; have fv3 := Zv.free 3; have ltr := Zr.lt; have ltv := Zv.lt; have B1 : Below w.heap.size w w1 := (((Below.refl _ w).alloc (Nat.le_refl _) _).alloc (by simp) _).trans (b1.mono (by simp; omega)); have hs1 := B1.size; clear Zr Zv)
  obtain ⟨X, hX⟩ : ∃ X, X = ((((w1.setCell ⟨w.heap.size + 1, 0, none⟩ (.int .i64 1)).setCell ⟨w.heap.size + 1, 1, none⟩ (.int .i64 U)).setCell ⟨w.heap.size + 1, 2, none⟩ (.int .i64 0)).setCell ⟨w.heap.size + 1, 3, none⟩ (.string ⟨#[]⟩)).alloc (.cells #[.int .i64 U, .int .i64 V] 72) := ⟨_, rfl⟩
  have a0 : X.cell? ⟨w.heap.size, 0, none⟩ = some (.int .i64 0) := by rw [hX]; simp [go_sem, *]
  have e0 : X.cell? ⟨w.heap.size + 1, 0, none⟩ = some (.int .i64 1) := by rw [hX]; simp [go_sem, *]
  have fa0 : X.frozen? ⟨w.heap.size, 0, none⟩ = false := by rw [hX]; simp [go_sem, *]
  have fe0 : X.frozen? ⟨w.heap.size + 1, 0, none⟩ = false := by rw [hX]; simp [go_sem, *]
  have a1 : X.cell? ⟨w.heap.size, 1, none⟩ = some (.int .i64 0) := by rw [hX]; simp [go_sem, *]
  have e1 : X.cell? ⟨w.heap.size + 1, 1, none⟩ = some (.int .i64 U) := by rw [hX]; simp [go_sem, *]
  have fa1 : X.frozen? ⟨w.heap.size, 1, none⟩ = false := by rw [hX]; simp [go_sem, *]
  have fe1 : X.frozen? ⟨w.heap.size + 1, 1, none⟩ = false := by rw [hX]; simp [go_sem, *]
  have a2 : X.cell? ⟨w.heap.size, 2, none⟩ = some (.int .i64 0) := by rw [hX]; simp [go_sem, *]
  have e2 : X.cell? ⟨w.heap.size + 1, 2, none⟩ = some (.int .i64 0) := by rw [hX]; simp [go_sem, *]
  have fa2 : X.frozen? ⟨w.heap.size, 2, none⟩ = false := by rw [hX]; simp [go_sem, *]
  have fe2 : X.frozen? ⟨w.heap.size + 1, 2, none⟩ = false := by rw [hX]; simp [go_sem, *]
  have a3 : X.cell? ⟨w.heap.size, 3, none⟩ = some (.string ⟨#[]⟩) := by rw [hX]; simp [go_sem, *]
  have e3 : X.cell? ⟨w.heap.size + 1, 3, none⟩ = some (.string ⟨#[]⟩) := by rw [hX]; simp [go_sem, *]
  have fa3 : X.frozen? ⟨w.heap.size, 3, none⟩ = false := by rw [hX]; simp [go_sem, *]
  have fe3 : X.frozen? ⟨w.heap.size + 1, 3, none⟩ = false := by rw [hX]; simp [go_sem, *]
  have d0 : X.cell? ⟨w1.heap.size, 0, none⟩ = some (.int .i64 U) := by rw [hX]; simp [go_sem, *]
  have d1 : X.cell? ⟨w1.heap.size, 1, none⟩ = some (.int .i64 V) := by rw [hX]; simp [go_sem, *]
  have BX : Below w.heap.size w X := by (rw [hX]; repeat (first | with_reducible exact B1 | with_reducible refine bl_set ?_ _ | with_reducible refine Below.drew ?_ | with_reducible refine Below.alloc ?_ (by simp; omega) _ | with_reducible refine bl_set2 ?_ (by omega) _))
  have hsX : X.heap.size = w1.heap.size + 1 := by rw [hX]; simp
  have ltX : w.heap.size < X.heap.size := by omega
  have ltX2 : w.heap.size + 1 < X.heap.size := by omega
  show Code.wp _ _ _ _ (((((w1.setCell ⟨w.heap.size + 1, 0, none⟩ (.int .i64 1)).setCell ⟨w.heap.size + 1, 1, none⟩ (.int .i64 U)).setCell ⟨w.heap.size + 1, 2, none⟩ (.int .i64 0)).setCell ⟨w.heap.size + 1, 3, none⟩ (.string ⟨#[]⟩)).alloc (.cells #[.int .i64 U, .int .i64 V] 72))
  rw [← hX]
  clear hX r0 r1 r2 r3 v0 v1 v2 v3 fr0 fr1 fr2 fr3 fv0 fv1 fv2 fv3 B1 hs1
  have r0 := a0
  have r1 := a1
  have r2 := a2
  have r3 := a3
  have v0 := e0
  have v1 := e1
  have v2 := e2
  have v3 := e3
  have fr0 := fa0
  have fr1 := fa1
  have fr2 := fa2
  have fr3 := fa3
  have fv0 := fe0
  have fv1 := fe1
  have fv2 := fe2
  have fv3 := fe3
  have B1 := BX
  have hs1 := BX.size
  clear a0 a1 a2 a3 e0 e1 e2 e3 fa0 fa1 fa2 fa3 fe0 fe1 fe2 fe3 BX
  go_wp2_with fail
  refine (P _).mono ?_
  rintro e w2 ⟨rfl, b2⟩
  have R0 : w2.cell? ⟨w.heap.size, 0, none⟩ = some (.int .i64 0) := (b2.cell (p := ⟨w.heap.size, 0, none⟩) (by simp; omega)).trans (by simp [go_sem, *])
  have V0 : w2.cell? ⟨w.heap.size + 1, 0, none⟩ = some (.int .i64 2) := (b2.cell (p := ⟨w.heap.size + 1, 0, none⟩) (by simp; omega)).trans (by simp [go_sem, *])
  have F0 : w2.frozen? ⟨w.heap.size, 0, none⟩ = false := (b2.frozen (p := ⟨w.heap.size, 0, none⟩) (by simp; omega)).trans (by simp [go_sem, *])
  have R1 : w2.cell? ⟨w.heap.size, 1, none⟩ = some (.int .i64 0) := (b2.cell (p := ⟨w.heap.size, 1, none⟩) (by simp; omega)).trans (by simp [go_sem, *])
  have V1 : w2.cell? ⟨w.heap.size + 1, 1, none⟩ = some (.int .i64 U) := (b2.cell (p := ⟨w.heap.size + 1, 1, none⟩) (by simp; omega)).trans (by simp [go_sem, *])
  have F1 : w2.frozen? ⟨w.heap.size, 1, none⟩ = false := (b2.frozen (p := ⟨w.heap.size, 1, none⟩) (by simp; omega)).trans (by simp [go_sem, *])
  have R2 : w2.cell? ⟨w.heap.size, 2, none⟩ = some (.int .i64 0) := (b2.cell (p := ⟨w.heap.size, 2, none⟩) (by simp; omega)).trans (by simp [go_sem, *])
  have V2 : w2.cell? ⟨w.heap.size + 1, 2, none⟩ = some (.int .i64 V) := (b2.cell (p := ⟨w.heap.size + 1, 2, none⟩) (by simp; omega)).trans (by simp [go_sem, *])
  have F2 : w2.frozen? ⟨w.heap.size, 2, none⟩ = false := (b2.frozen (p := ⟨w.heap.size, 2, none⟩) (by simp; omega)).trans (by simp [go_sem, *])
  have R3 : w2.cell? ⟨w.heap.size, 3, none⟩ = some (.string ⟨#[]⟩) := (b2.cell (p := ⟨w.heap.size, 3, none⟩) (by simp; omega)).trans (by simp [go_sem, *])
  have V3 : w2.cell? ⟨w.heap.size + 1, 3, none⟩ = some (.string ⟨#[]⟩) := (b2.cell (p := ⟨w.heap.size + 1, 3, none⟩) (by simp; omega)).trans (by simp [go_sem, *])
  have F3 : w2.frozen? ⟨w.heap.size, 3, none⟩ = false := (b2.frozen (p := ⟨w.heap.size, 3, none⟩) (by simp; omega)).trans (by simp [go_sem, *])
  have B2 : Below w.heap.size w w2 := by (refine Below.trans ?_ (Below.mono b2 (by simp; omega)); repeat (first | with_reducible exact B1 | with_reducible refine bl_set ?_ _ | with_reducible refine Below.drew ?_ | with_reducible refine Below.alloc ?_ (by simp; omega) _ | with_reducible refine bl_set2 ?_ (by omega) _))
  have lt2 : w.heap.size < w2.heap.size := by have := b2.size; simp at this; omega
  clear b2 B1 hs1 r0 r1 r2 r3 v0 v1 v2 v3 fr0 fr1 fr2 fr3 fv0 fv1 fv2 fv3 ltr ltv
  go_wp2
  refine bodyPost_ret_by (v := .tuple #[va 0 0 0 ⟨#[]⟩, .int .i64 21]) ?_ rfl ⟨rfl, ?_⟩
  · simp [results, Tryz.results7, go_sem, R0, R1, R2, R3]
  · repeat (first | with_reducible exact B2 | with_reducible refine bl_set ?_ _)

set_option maxRecDepth 20000 in
set_option maxHeartbeats 4000000 in
theorem rpBn (t q : List UInt8) (S : ByteArray) (c0 cl : UInt8) (U V E : Int) (S1 : ByteArray) (w : World) (hS : S.size = t.length) (hq : (q == S.toList) = false) (h1 : 1 ≤ t.length) (ht : t.length ≤ 140737488351232)
    (n0 : S.toList.isEmpty = false) (_n1 : (S.toList == [110, 117, 108, 108]) = false) (n2 : (S.toList == [116, 114, 117, 101]) = false) (n3 : (S.toList == [102, 97, 108, 115, 101]) = false)
    (_hg0 : ∀ h, S[0]'h = c0) (_hgl : ∀ h, S[t.length - 1]'h = cl) (h39 : ((c0.toNat : Int) == 39) = false) (h60 : ((c0.toNat : Int) == 60) = false) (h46 : ((cl.toNat : Int) == 46) = true) (h2 : 2 ≤ t.length) (hx : S.extract 0 (t.length - 1) = S1) (D : ∀ W, Calls Tryz.prog 33 #[.string S1] W fun e w' => e = .returned (.tuple #[dv U V, .int .i64 E]) ∧ Below W.heap.size W w')
    (P : ∀ W, Calls Tryz.prog 9 #[va  2  U  V ⟨#[]⟩] W fun e w' => e = .returned (.string ⟨q.toArray⟩) ∧ Below W.heap.size W w') :
    Calls Tryz.prog 7 #[.string S] w fun e w' => e = .returned (.tuple #[va 0 0 0 ⟨#[]⟩, .int .i64 21]) ∧ Below w.heap.size w w' := by
  have h1' : (1 : Int) ≤ (t.length : Int) := by omega
  have ht' : (t.length : Int) ≤ 140737488351232 := by omega
  have Z0 : Cbox ((w.alloc (.cells #[.int .i64 0, .int .i64 0, .int .i64 0, .string ⟨#[]⟩] 23)).alloc (.cells #[.int .i64 0, .int .i64 0, .int .i64 0, .string ⟨#[]⟩] 23)) w.heap.size #[.int .i64 0, .int .i64 0, .int .i64 0, .string ⟨#[]⟩] 23 := (Cbox.new w _ _).later ((Below.refl _ _).alloc (Nat.le_refl _) _)
  have Z1 : Cbox ((w.alloc (.cells #[.int .i64 0, .int .i64 0, .int .i64 0, .string ⟨#[]⟩] 23)).alloc (.cells #[.int .i64 0, .int .i64 0, .int .i64 0, .string ⟨#[]⟩] 23)) (w.heap.size + 1) #[.int .i64 0, .int .i64 0, .int .i64 0, .string ⟨#[]⟩] 23 := by
    have := Cbox.new (w.alloc (.cells #[.int .i64 0, .int .i64 0, .int .i64 0, .string ⟨#[]⟩] 23)) #[.int .i64 0, .int .i64 0, .int .i64 0, .string ⟨#[]⟩] 23
    rwa [World.size_alloc] at this
  have h2' : (2 : Int) ≤ (t.length : Int) := by omega
  have h3 : ((t.length : Int) - 1).toNat = t.length - 1 := by omega
  have h4 : (0 : Int) ≤ (t.length : Int) - 1 := by omega
  have h5 : (t.length : Int) - 1 ≤ (t.length : Int) := by omega
  go_enter Tryz.func7, Tryz.ntmps7
  go_wp2_with (go_at_call 33; refine (D _).mono ?_; rintro e w1 ⟨rfl, b1⟩; have Zr : Cbox w1 w.heap.size #[.int .i64 0, .int .i64 0, .int .i64 0, .string ⟨#[]⟩] 23 := Z0.later b1; have Zv : Cbox w1 (w.heap.size + 1) #[.int .i64 0, .int .i64 0, .int .i64 0, .string ⟨#[]⟩] 23 := Z1.later b1; have r0 := Zr.at 0; have v0 := Zv.at 0; have fr0 := Zr.free 0; have fv0 := Zv.free 0; have r1 := Zr.at 1; have v1 := Zv.at 1; have fr1 := Zr.free 1; have fv1 := Zv.free 1; have r2 := Zr.at 2; have v2 := Zv.at 2; have fr2 := Zr.free 2; have fv2 := Zv.free 2; have r3 := Zr.at 3; have v3 := Zv.at 3; have fr3 := Zr.free 3; have fv3 := Zv.free 3; have ltr := Zr.lt; have ltv := Zv.lt; have B1 : Below w.heap.size w w1 := (((Below.refl _ w).alloc (Nat.le_refl _) _).alloc (by simp) _).trans (b1.mono (by simp; omega)); have hs1 := B1.size; clear Zr Zv)
  refine (P _).mono ?_
  rintro e w2 ⟨rfl, b2⟩
  have R0 : w2.cell? ⟨w.heap.size, 0, none⟩ = some (.int .i64 0) := (b2.cell (p := ⟨w.heap.size, 0, none⟩) (by simp; omega)).trans (by simp [go_sem, *])
  have V0 : w2.cell? ⟨w.heap.size + 1, 0, none⟩ = some (.int .i64 2) := (b2.cell (p := ⟨w.heap.size + 1, 0, none⟩) (by simp; omega)).trans (by simp [go_sem, *])
  have F0 : w2.frozen? ⟨w.heap.size, 0, none⟩ = false := (b2.frozen (p := ⟨w.heap.size, 0, none⟩) (by simp; omega)).trans (by simp [go_sem, *])
  have R1 : w2.cell? ⟨w.heap.size, 1, none⟩ = some (.int .i64 0) := (b2.cell (p := ⟨w.heap.size, 1, none⟩) (by simp; omega)).trans (by simp [go_sem, *])
  have V1 : w2.cell? ⟨w.heap.size + 1, 1, none⟩ = some (.int .i64 U) := (b2.cell (p := ⟨w.heap.size + 1, 1, none⟩) (by simp; omega)).trans (by simp [go_sem, *])
  have F1 : w2.frozen? ⟨w.heap.size, 1, none⟩ = false := (b2.frozen (p := ⟨w.heap.size, 1, none⟩) (by simp; omega)).trans (by simp [go_sem, *])
  have R2 : w2.cell? ⟨w.heap.size, 2, none⟩ = some (.int .i64 0) := (b2.cell (p := ⟨w.heap.size, 2, none⟩) (by simp; omega)).trans (by simp [go_sem, *])
  have V2 : w2.cell? ⟨w.heap.size + 1, 2, none⟩ = some (.int .i64 V) := (b2.cell (p := ⟨w.heap.size + 1, 2, none⟩) (by simp; omega)).trans (by simp [go_sem, *])
  have F2 : w2.frozen? ⟨w.heap.size, 2, none⟩ = false := (b2.frozen (p := ⟨w.heap.size, 2, none⟩) (by simp; omega)).trans (by simp [go_sem, *])
  have R3 : w2.cell? ⟨w.heap.size, 3, none⟩ = some (.string ⟨#[]⟩) := (b2.cell (p := ⟨w.heap.size, 3, none⟩) (by simp; omega)).trans (by simp [go_sem, *])
  have V3 : w2.cell? ⟨w.heap.size + 1, 3, none⟩ = some (.string ⟨#[]⟩) := (b2.cell (p := ⟨w.heap.size + 1, 3, none⟩) (by simp; omega)).trans (by simp [go_sem, *])
  have F3 : w2.frozen? ⟨w.heap.size, 3, none⟩ = false := (b2.frozen (p := ⟨w.heap.size, 3, none⟩) (by simp; omega)).trans (by simp [go_sem, *])
  have B2 : Below w.heap.size w w2 := by (refine Below.trans ?_ (Below.mono b2 (by simp; omega)); repeat (first | with_reducible exact B1 | with_reducible refine bl_set ?_ _ | with_reducible refine Below.drew ?_ | with_reducible refine Below.alloc ?_ (by simp; omega) _ | with_reducible refine bl_set2 ?_ (by omega) _))
  have lt2 : w.heap.size < w2.heap.size := by have := b2.size; simp at this; omega
  clear b2 B1 hs1 r0 r1 r2 r3 v0 v1 v2 v3 fr0 fr1 fr2 fr3 fv0 fv1 fv2 fv3 ltr ltv
  go_wp2
  refine bodyPost_ret_by (v := .tuple #[va 0 0 0 ⟨#[]⟩, .int .i64 21]) ?_ rfl ⟨rfl, ?_⟩
  · simp [results, Tryz.results7, go_sem, R0, R1, R2, R3]
  · repeat (first | with_reducible exact B2 | with_reducible refine bl_set ?_ _)

set_option maxRecDepth 20000 in
set_option maxHeartbeats 4000000 in
theorem rpAn (t q : List UInt8) (S : ByteArray) (c0 cl : UInt8) (b : ByteArray) (w : World) (hS : S.size = t.length) (hq : (q == S.toList) = false) (h1 : 1 ≤ t.length) (ht : t.length ≤ 140737488351232)
    (n0 : S.toList.isEmpty = false) (_n1 : (S.toList == [110, 117, 108, 108]) = false) (n2 : (S.toList == [116, 114, 117, 101]) = false) (n3 : (S.toList == [102, 97, 108, 115, 101]) = false)
    (_hg0 : ∀ h, S[0]'h = c0) (_hgl : ∀ h, S[t.length - 1]'h = cl) (h39 : ((c0.toNat : Int) == 39) = true) (h2 : 2 ≤ t.length) (Q : ∀ W, Calls Tryz.prog 31 #[.string S] W fun e w' => e = .returned (.string b) ∧ Below W.heap.size W w')
    (P : ∀ W, Calls Tryz.prog 9 #[va  3  0  0 b] W fun e w' => e = .returned (.string ⟨q.toArray⟩) ∧ Below W.heap.size W w') :
    Calls Tryz.prog 7 #[.string S] w fun e w' => e = .returned (.tuple #[va 0 0 0 ⟨#[]⟩, .int .i64 21]) ∧ Below w.heap.size w w' := by
  have h1' : (1 : Int) ≤ (t.length : Int) := by omega
  have ht' : (t.length : Int) ≤ 140737488351232 := by omega
  have Z0 : Cbox ((w.alloc (.cells #[.int .i64 0, .int .i64 0, .int .i64 0, .string ⟨#[]⟩] 23)).alloc (.cells #[.int .i64 0, .int .i64 0, .int .i64 0, .string ⟨#[]⟩] 23)) w.heap.size #[.int .i64 0, .int .i64 0, .int .i64 0, .string ⟨#[]⟩] 23 := (Cbox.new w _ _).later ((Below.refl _ _).alloc (Nat.le_refl _) _)
  have Z1 : Cbox ((w.alloc (.cells #[.int .i64 0, .int .i64 0, .int .i64 0, .string ⟨#[]⟩] 23)).alloc (.cells #[.int .i64 0, .int .i64 0, .int .i64 0, .string ⟨#[]⟩] 23)) (w.heap.size + 1) #[.int .i64 0, .int .i64 0, .int .i64 0, .string ⟨#[]⟩] 23 := by
    have := Cbox.new (w.alloc (.cells #[.int .i64 0, .int .i64 0, .int .i64 0, .string ⟨#[]⟩] 23)) #[.int .i64 0, .int .i64 0, .int .i64 0, .string ⟨#[]⟩] 23
    rwa [World.size_alloc] at this
  have h2' : (2 : Int) ≤ (t.length : Int) := by omega
  have h3 : ((t.length : Int) - 1).toNat = t.length - 1 := by omega
  have h4 : (0 : Int) ≤ (t.length : Int) - 1 := by omega
  go_enter Tryz.func7, Tryz.ntmps7
  go_wp2_with (go_at_call 31; refine (Q _).mono ?_; rintro e w1 ⟨rfl, b1⟩; have Zr : Cbox w1 w.heap.size #[.int .i64 0, .int .i64 0, .int .i64 0, .string ⟨#[]⟩] 23 := Z0.later b1; have Zv : Cbox w1 (w.heap.size + 1) #[.int .i64 0, .int .i64 0, .int .i64 0, .string ⟨#[]⟩] 23 := Z1.later b1; have r0 := Zr.at 0; have v0 := Zv.at 0; have fr0 := Zr.free 0; have fv0 := Zv.free 0; have r1 := Zr.at 1; have v1 := Zv.at 1; have fr1 := Zr.free 1; have fv1 := Zv.free 1; have r2 := Zr.at 2; have v2 := Zv.at 2; have fr2 := Zr.free 2; have fv2 := Zv.free 2; have r3 := Zr.at 3; have v3 := Zv.at 3; have fr3 := Zr.free 3; have fv3 := Zv.free 3; have ltr := Zr.lt; have ltv := Zv.lt; have B1 : Below w.heap.size w w1 := (((Below.refl _ w).alloc (Nat.le_refl _) _).alloc (by simp) _).trans (b1.mono (by simp; omega)); have hs1 := B1.size; clear Zr Zv)
  refine (P _).mono ?_
  rintro e w2 ⟨rfl, b2⟩
  have R0 : w2.cell? ⟨w.heap.size, 0, none⟩ = some (.int .i64 0) := (b2.cell (p := ⟨w.heap.size, 0, none⟩) (by simp; omega)).trans (by simp [go_sem, *])
  have V0 : w2.cell? ⟨w.heap.size + 1, 0, none⟩ = some (.int .i64 3) := (b2.cell (p := ⟨w.heap.size + 1, 0, none⟩) (by simp; omega)).trans (by simp [go_sem, *])
  have F0 : w2.frozen? ⟨w.heap.size, 0, none⟩ = false := (b2.frozen (p := ⟨w.heap.size, 0, none⟩) (by simp; omega)).trans (by simp [go_sem, *])
  have R1 : w2.cell? ⟨w.heap.size, 1, none⟩ = some (.int .i64 0) := (b2.cell (p := ⟨w.heap.size, 1, none⟩) (by simp; omega)).trans (by simp [go_sem, *])
  have V1 : w2.cell? ⟨w.heap.size + 1, 1, none⟩ = some (.int .i64 0) := (b2.cell (p := ⟨w.heap.size + 1, 1, none⟩) (by simp; omega)).trans (by simp [go_sem, *])
  have F1 : w2.frozen? ⟨w.heap.size, 1, none⟩ = false := (b2.frozen (p := ⟨w.heap.size, 1, none⟩) (by simp; omega)).trans (by simp [go_sem, *])
  have R2 : w2.cell? ⟨w.heap.size, 2, none⟩ = some (.int .i64 0) := (b2.cell (p := ⟨w.heap.size, 2, none⟩) (by simp; omega)).trans (by simp [go_sem, *])
  have V2 : w2.cell? ⟨w.heap.size + 1, 2, none⟩ = some (.int .i64 0) := (b2.cell (p := ⟨w.heap.size + 1, 2, none⟩) (by simp; omega)).trans (by simp [go_sem, *])
  have F2 : w2.frozen? ⟨w.heap.size, 2, none⟩ = false := (b2.frozen (p := ⟨w.heap.size, 2, none⟩) (by simp; omega)).trans (by simp [go_sem, *])
  have R3 : w2.cell? ⟨w.heap.size, 3, none⟩ = some (.string ⟨#[]⟩) := (b2.cell (p := ⟨w.heap.size, 3, none⟩) (by simp; omega)).trans (by simp [go_sem, *])
  have V3 : w2.cell? ⟨w.heap.size + 1, 3, none⟩ = some (.string b) := (b2.cell (p := ⟨w.heap.size + 1, 3, none⟩) (by simp; omega)).trans (by simp [go_sem, *])
  have F3 : w2.frozen? ⟨w.heap.size, 3, none⟩ = false := (b2.frozen (p := ⟨w.heap.size, 3, none⟩) (by simp; omega)).trans (by simp [go_sem, *])
  have B2 : Below w.heap.size w w2 := by (refine Below.trans ?_ (Below.mono b2 (by simp; omega)); repeat (first | with_reducible exact B1 | with_reducible refine bl_set ?_ _ | with_reducible refine Below.drew ?_ | with_reducible refine Below.alloc ?_ (by simp; omega) _ | with_reducible refine bl_set2 ?_ (by omega) _))
  have lt2 : w.heap.size < w2.heap.size := by have := b2.size; simp at this; omega
  clear b2 B1 hs1 r0 r1 r2 r3 v0 v1 v2 v3 fr0 fr1 fr2 fr3 fv0 fv1 fv2 fv3 ltr ltv
  go_wp2
  refine bodyPost_ret_by (v := .tuple #[va 0 0 0 ⟨#[]⟩, .int .i64 21]) ?_ rfl ⟨rfl, ?_⟩
  · simp [results, Tryz.results7, go_sem, R0, R1, R2, R3]
  · repeat (first | with_reducible exact B2 | with_reducible refine bl_set ?_ _)

set_option maxRecDepth 20000 in
set_option maxHeartbeats 4000000 in
theorem rpLn (t q : List UInt8) (S : ByteArray) (c0 cl : UInt8) (U V E : Int) (w : World) (hS : S.size = t.length) (hq : (q == S.toList) = false) (h1 : 1 ≤ t.length) (ht : t.length ≤ 140737488351232)
    (n0 : S.toList.isEmpty = false) (_n1 : (S.toList == [110, 117, 108, 108]) = false) (n2 : (S.toList == [116, 114, 117, 101]) = false) (n3 : (S.toList == [102, 97, 108, 115, 101]) = false)
    (_hg0 : ∀ h, S[0]'h = c0) (_hgl : ∀ h, S[t.length - 1]'h = cl) (h39 : ((c0.toNat : Int) == 39) = false) (h60 : ((c0.toNat : Int) == 60) = true) (h2 : 2 ≤ t.length) (D : ∀ W, Calls Tryz.prog 32 #[.string S] W fun e w' => e = .returned (.tuple #[dv U V, .int .i64 E]) ∧ Below W.heap.size W w')
    (P : ∀ W, Calls Tryz.prog 9 #[va  5  U  V ⟨#[]⟩] W fun e w' => e = .returned (.string ⟨q.toArray⟩) ∧ Below W.heap.size W w') :
    Calls Tryz.prog 7 #[.string S] w fun e w' => e = .returned (.tuple #[va 0 0 0 ⟨#[]⟩, .int .i64 21]) ∧ Below w.heap.size w w' := by
  have h1' : (1 : Int) ≤ (t.length : Int) := by omega
  have ht' : (t.length : Int) ≤ 140737488351232 := by omega
  have Z0 : Cbox ((w.alloc (.cells #[.int .i64 0, .int .i64 0, .int .i64 0, .string ⟨#[]⟩] 23)).alloc (.cells #[.int .i64 0, .int .i64 0, .int .i64 0, .string ⟨#[]⟩] 23)) w.heap.size #[.int .i64 0, .int .i64 0, .int .i64 0, .string ⟨#[]⟩] 23 := (Cbox.new w _ _).later ((Below.refl _ _).alloc (Nat.le_refl _) _)
  have Z1 : Cbox ((w.alloc (.cells #[.int .i64 0, .int .i64 0, .int .i64 0, .string ⟨#[]⟩] 23)).alloc (.cells #[.int .i64 0, .int .i64 0, .int .i64 0, .string ⟨#[]⟩] 23)) (w.heap.size + 1) #[.int .i64 0, .int .i64 0, .int .i64 0, .string ⟨#[]⟩] 23 := by
    have := Cbox.new (w.alloc (.cells #[.int .i64 0, .int .i64 0, .int .i64 0, .string ⟨#[]⟩] 23)) #[.int .i64 0, .int .i64 0, .int .i64 0, .string ⟨#[]⟩] 23
    rwa [World.size_alloc] at this
  have h2' : (2 : Int) ≤ (t.length : Int) := by omega
  have h3 : ((t.length : Int) - 1).toNat = t.length - 1 := by omega
  have h4 : (0 : Int) ≤ (t.length : Int) - 1 := by omega
  go_enter Tryz.func7, Tryz.ntmps7
  go_wp2_with (go_at_call 32; refine (D _).mono ?_; rintro e w1 ⟨rfl, b1⟩; have Zr : Cbox w1 w.heap.size #[.int .i64 0, .int .i64 0, .int .i64 0, .string ⟨#[]⟩] 23 := Z0.later b1; have Zv : Cbox w1 (w.heap.size + 1) #[.int .i64 0, .int .i64 0, .int .i64 0, .string ⟨#[]⟩] 23 := Z1.later b1; have r0 := Zr.at 0; have v0 := Zv.at 0; have fr0 := Zr.free 0; have fv0 := Zv.free 0; have r1 := Zr.at 1; have v1 := Zv.at 1; have fr1 := Zr.free 1; have fv1 := Zv.free 1; have r2 := Zr.at 2; have v2 := Zv.at 2; have fr2 := Zr.free 2; have fv2 := Zv.free 2; have r3 := Zr.at 3; have v3 := Zv.at 3; have fr3 := Zr.free 3; have fv3 := Zv.free 3; have ltr := Zr.lt; have ltv := Zv.lt; have B1 : Below w.heap.size w w1 := (((Below.refl _ w).alloc (Nat.le_refl _) _).alloc (by simp) _).trans (b1.mono (by simp; omega)); have hs1 := B1.size; clear Zr Zv)
  refine (P _).mono ?_
  rintro e w2 ⟨rfl, b2⟩
  have R0 : w2.cell? ⟨w.heap.size, 0, none⟩ = some (.int .i64 0) := (b2.cell (p := ⟨w.heap.size, 0, none⟩) (by simp; omega)).trans (by simp [go_sem, *])
  have V0 : w2.cell? ⟨w.heap.size + 1, 0, none⟩ = some (.int .i64 5) := (b2.cell (p := ⟨w.heap.size + 1, 0, none⟩) (by simp; omega)).trans (by simp [go_sem, *])
  have F0 : w2.frozen? ⟨w.heap.size, 0, none⟩ = false := (b2.frozen (p := ⟨w.heap.size, 0, none⟩) (by simp; omega)).trans (by simp [go_sem, *])
  have R1 : w2.cell? ⟨w.heap.size, 1, none⟩ = some (.int .i64 0) := (b2.cell (p := ⟨w.heap.size, 1, none⟩) (by simp; omega)).trans (by simp [go_sem, *])
  have V1 : w2.cell? ⟨w.heap.size + 1, 1, none⟩ = some (.int .i64 U) := (b2.cell (p := ⟨w.heap.size + 1, 1, none⟩) (by simp; omega)).trans (by simp [go_sem, *])
  have F1 : w2.frozen? ⟨w.heap.size, 1, none⟩ = false := (b2.frozen (p := ⟨w.heap.size, 1, none⟩) (by simp; omega)).trans (by simp [go_sem, *])
  have R2 : w2.cell? ⟨w.heap.size, 2, none⟩ = some (.int .i64 0) := (b2.cell (p := ⟨w.heap.size, 2, none⟩) (by simp; omega)).trans (by simp [go_sem, *])
  have V2 : w2.cell? ⟨w.heap.size + 1, 2, none⟩ = some (.int .i64 V) := (b2.cell (p := ⟨w.heap.size + 1, 2, none⟩) (by simp; omega)).trans (by simp [go_sem, *])
  have F2 : w2.frozen? ⟨w.heap.size, 2, none⟩ = false := (b2.frozen (p := ⟨w.heap.size, 2, none⟩) (by simp; omega)).trans (by simp [go_sem, *])
  have R3 : w2.cell? ⟨w.heap.size, 3, none⟩ = some (.string ⟨#[]⟩) := (b2.cell (p := ⟨w.heap.size, 3, none⟩) (by simp; omega)).trans (by simp [go_sem, *])
  have V3 : w2.cell? ⟨w.heap.size + 1, 3, none⟩ = some (.string ⟨#[]⟩) := (b2.cell (p := ⟨w.heap.size + 1, 3, none⟩) (by simp; omega)).trans (by simp [go_sem, *])
  have F3 : w2.frozen? ⟨w.heap.size, 3, none⟩ = false := (b2.frozen (p := ⟨w.heap.size, 3, none⟩) (by simp; omega)).trans (by simp [go_sem, *])
  have B2 : Below w.heap.size w w2 := by (refine Below.trans ?_ (Below.mono b2 (by simp; omega)); repeat (first | with_reducible exact B1 | with_reducible refine bl_set ?_ _ | with_reducible refine Below.drew ?_ | with_reducible refine Below.alloc ?_ (by simp; omega) _ | with_reducible refine bl_set2 ?_ (by omega) _))
  have lt2 : w.heap.size < w2.heap.size := by have := b2.size; simp at this; omega
  clear b2 B1 hs1 r0 r1 r2 r3 v0 v1 v2 v3 fr0 fr1 fr2 fr3 fv0 fv1 fv2 fv3 ltr ltv
  go_wp2
  refine bodyPost_ret_by (v := .tuple #[va 0 0 0 ⟨#[]⟩, .int .i64 21]) ?_ rfl ⟨rfl, ?_⟩
  · simp [results, Tryz.results7, go_sem, R0, R1, R2, R3]
  · repeat (first | with_reducible exact B2 | with_reducible refine bl_set ?_ _)
end Go.Proofs.YtibbenhplmmmiaaGreatDoor.Dt
