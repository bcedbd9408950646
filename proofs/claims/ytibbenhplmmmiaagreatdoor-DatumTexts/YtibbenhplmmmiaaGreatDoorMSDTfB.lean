/-
  The document's Parse of null, the two truths and nothing.
  DatumTexts: what the row's form asks of the program's own text.
-/
import Derived.Test.YtibbenhplmmmiaaGreatDoorLRParse
import Derived.Test.YtibbenhplmmmiaaGreatDoorVFrm
namespace Go.Proofs.YtibbenhplmmmiaaGreatDoor.Dt
open Go.RowKit Go.Shelf
attribute [local go_sem] cell?_more frozen?_more setCell_more more_lt more_more more_drew more_drewN setCell_drewN alloc_drewN

set_option maxRecDepth 20000 in
set_option maxHeartbeats 4000000 in
theorem rpN (q : List UInt8) (S : ByteArray) (w : World) (hS : S.size = 4) (hq : (q == S.toList) = true) (n0 : S.toList.isEmpty = false) (nN : (S.toList == [110, 117, 108, 108]) = true) (nT : (S.toList == [116, 114, 117, 101]) = false) (nF : (S.toList == [102, 97, 108, 115, 101]) = false) (hg0 : ∀ h, S[0]'h = 110) (hgl : ∀ h, S[3]'h = 108)
    (P : ∀ W, Calls Tryz.prog 9 #[va  0  0  0 ⟨#[]⟩] W fun e w' => e = .returned (.string ⟨q.toArray⟩) ∧ Below W.heap.size W w') :
    Calls Tryz.prog 7 #[.string S] w fun e w' => e = .returned (.tuple #[va  0  0  0 ⟨#[]⟩, .int .i64 0]) ∧ Below w.heap.size w w' := by
  have Z0 : Cbox ((w.alloc (.cells #[.int .i64 0, .int .i64 0, .int .i64 0, .string ⟨#[]⟩] 23)).alloc (.cells #[.int .i64 0, .int .i64 0, .int .i64 0, .string ⟨#[]⟩] 23)) w.heap.size #[.int .i64 0, .int .i64 0, .int .i64 0, .string ⟨#[]⟩] 23 := (Cbox.new w _ _).later ((Below.refl _ _).alloc (Nat.le_refl _) _)
  have Z1 : Cbox ((w.alloc (.cells #[.int .i64 0, .int .i64 0, .int .i64 0, .string ⟨#[]⟩] 23)).alloc (.cells #[.int .i64 0, .int .i64 0, .int .i64 0, .string ⟨#[]⟩] 23)) (w.heap.size + 1) #[.int .i64 0, .int .i64 0, .int .i64 0, .string ⟨#[]⟩] 23 := by
    have := Cbox.new (w.alloc (.cells #[.int .i64 0, .int .i64 0, .int .i64 0, .string ⟨#[]⟩] 23)) #[.int .i64 0, .int .i64 0, .int .i64 0, .string ⟨#[]⟩] 23
    rwa [World.size_alloc] at this
  have B1 : Below w.heap.size w ((w.alloc (.cells #[.int .i64 0, .int .i64 0, .int .i64 0, .string ⟨#[]⟩] 23)).alloc (.cells #[.int .i64 0, .int .i64 0, .int .i64 0, .string ⟨#[]⟩] 23)) := ((Below.refl _ w).alloc (Nat.le_refl _) _).alloc (by simp) _
  go_enter Tryz.func7, Tryz.ntmps7
  go_upto_region 2 with fail
  generalize (w.alloc (.cells #[.int .i64 0, .int .i64 0, .int .i64 0, .string ⟨#[]⟩] 23)).alloc (.cells #[.int .i64 0, .int .i64 0, .int .i64 0, .string ⟨#[]⟩] 23) = w1 at *
  have r0 := Z0.at 0
  have v0 := Z1.at 0
  have fr0 := Z0.free 0
  have fv0 := Z1.free 0
  have r1 := Z0.at 1
  have v1 := Z1.at 1
  have fr1 := Z0.free 1
  have fv1 := Z1.free 1
  have r2 := Z0.at 2
  have v2 := Z1.at 2
  have fr2 := Z0.free 2
  have fv2 := Z1.free 2
  have r3 := Z0.at 3
  have v3 := Z1.at 3
  have fr3 := Z0.free 3
  have fv3 := Z1.free 3
  have ltr := Z0.lt
  have ltv := Z1.lt
  have hs1 := B1.size
  clear Z0 Z1
  go_wp2_with fail
  refine (P _).mono ?_
  rintro e w2 ⟨rfl, b2⟩
  have R0 : w2.cell? ⟨w.heap.size, 0, none⟩ = some (.int .i64 0) := (b2.cell (p := ⟨w.heap.size, 0, none⟩) (by (try simp); omega)).trans (by simp [go_sem, *])
  have V0 : w2.cell? ⟨w.heap.size + 1, 0, none⟩ = some (.int .i64 0) := (b2.cell (p := ⟨w.heap.size + 1, 0, none⟩) (by (try simp); omega)).trans (by simp [go_sem, *])
  have F0 : w2.frozen? ⟨w.heap.size, 0, none⟩ = false := (b2.frozen (p := ⟨w.heap.size, 0, none⟩) (by (try simp); omega)).trans (by simp [go_sem, *])
  have R1 : w2.cell? ⟨w.heap.size, 1, none⟩ = some (.int .i64 0) := (b2.cell (p := ⟨w.heap.size, 1, none⟩) (by (try simp); omega)).trans (by simp [go_sem, *])
  have V1 : w2.cell? ⟨w.heap.size + 1, 1, none⟩ = some (.int .i64 0) := (b2.cell (p := ⟨w.heap.size + 1, 1, none⟩) (by (try simp); omega)).trans (by simp [go_sem, *])
  have F1 : w2.frozen? ⟨w.heap.size, 1, none⟩ = false := (b2.frozen (p := ⟨w.heap.size, 1, none⟩) (by (try simp); omega)).trans (by simp [go_sem, *])
  have R2 : w2.cell? ⟨w.heap.size, 2, none⟩ = some (.int .i64 0) := (b2.cell (p := ⟨w.heap.size, 2, none⟩) (by (try simp); omega)).trans (by simp [go_sem, *])
  have V2 : w2.cell? ⟨w.heap.size + 1, 2, none⟩ = some (.int .i64 0) := (b2.cell (p := ⟨w.heap.size + 1, 2, none⟩) (by (try simp); omega)).trans (by simp [go_sem, *])
  have F2 : w2.frozen? ⟨w.heap.size, 2, none⟩ = false := (b2.frozen (p := ⟨w.heap.size, 2, none⟩) (by (try simp); omega)).trans (by simp [go_sem, *])
  have R3 : w2.cell? ⟨w.heap.size, 3, none⟩ = some (.string ⟨#[]⟩) := (b2.cell (p := ⟨w.heap.size, 3, none⟩) (by (try simp); omega)).trans (by simp [go_sem, *])
  have V3 : w2.cell? ⟨w.heap.size + 1, 3, none⟩ = some (.string ⟨#[]⟩) := (b2.cell (p := ⟨w.heap.size + 1, 3, none⟩) (by (try simp); omega)).trans (by simp [go_sem, *])
  have F3 : w2.frozen? ⟨w.heap.size, 3, none⟩ = false := (b2.frozen (p := ⟨w.heap.size, 3, none⟩) (by (try simp); omega)).trans (by simp [go_sem, *])
  have B2 : Below w.heap.size w w2 := by (refine Below.trans ?_ (Below.mono b2 (by (try simp); omega)); repeat (first | with_reducible exact B1 | with_reducible refine bl_set ?_ _ | with_reducible refine Below.drew ?_ | with_reducible refine Below.alloc ?_ (by (try simp); omega) _ | with_reducible refine bl_set2 ?_ (by omega) _))
  have lt2 : w.heap.size < w2.heap.size := by have := b2.size; (try simp at this); omega
  clear b2 B1 hs1 r0 r1 r2 r3 v0 v1 v2 v3 fr0 fr1 fr2 fr3 fv0 fv1 fv2 fv3 ltr ltv
  go_wp2
  refine bodyPost_ret_by (v := .tuple #[va  0  0  0 ⟨#[]⟩, .int .i64 0]) ?_ rfl ⟨rfl, ?_⟩
  · simp [results, Tryz.results7, go_sem, R0, R1, R2, R3]
  · repeat (first | with_reducible exact B2 | with_reducible refine bl_set ?_ _)

set_option maxRecDepth 20000 in
set_option maxHeartbeats 4000000 in
theorem rpT (q : List UInt8) (S : ByteArray) (w : World) (hS : S.size = 4) (hq : (q == S.toList) = true) (n0 : S.toList.isEmpty = false) (_nN : (S.toList == [110, 117, 108, 108]) = false) (nT : (S.toList == [116, 114, 117, 101]) = true) (_nF : (S.toList == [102, 97, 108, 115, 101]) = false)
    (P : ∀ W, Calls Tryz.prog 9 #[va  4  1  0 ⟨#[]⟩] W fun e w' => e = .returned (.string ⟨q.toArray⟩) ∧ Below W.heap.size W w') :
    Calls Tryz.prog 7 #[.string S] w fun e w' => e = .returned (.tuple #[va  4  1  0 ⟨#[]⟩, .int .i64 0]) ∧ Below w.heap.size w w' := by
  have Z0 : Cbox ((w.alloc (.cells #[.int .i64 0, .int .i64 0, .int .i64 0, .string ⟨#[]⟩] 23)).alloc (.cells #[.int .i64 0, .int .i64 0, .int .i64 0, .string ⟨#[]⟩] 23)) w.heap.size #[.int .i64 0, .int .i64 0, .int .i64 0, .string ⟨#[]⟩] 23 := (Cbox.new w _ _).later ((Below.refl _ _).alloc (Nat.le_refl _) _)
  have Z1 : Cbox ((w.alloc (.cells #[.int .i64 0, .int .i64 0, .int .i64 0, .string ⟨#[]⟩] 23)).alloc (.cells #[.int .i64 0, .int .i64 0, .int .i64 0, .string ⟨#[]⟩] 23)) (w.heap.size + 1) #[.int .i64 0, .int .i64 0, .int .i64 0, .string ⟨#[]⟩] 23 := by
    have := Cbox.new (w.alloc (.cells #[.int .i64 0, .int .i64 0, .int .i64 0, .string ⟨#[]⟩] 23)) #[.int .i64 0, .int .i64 0, .int .i64 0, .string ⟨#[]⟩] 23
    rwa [World.size_alloc] at this
  have B1 : Below w.heap.size w ((w.alloc (.cells #[.int .i64 0, .int .i64 0, .int .i64 0, .string ⟨#[]⟩] 23)).alloc (.cells #[.int .i64 0, .int .i64 0, .int .i64 0, .string ⟨#[]⟩] 23)) := ((Below.refl _ w).alloc (Nat.le_refl _) _).alloc (by simp) _
  go_enter Tryz.func7, Tryz.ntmps7
  go_upto_region 2 with fail
  generalize (w.alloc (.cells #[.int .i64 0, .int .i64 0, .int .i64 0, .string ⟨#[]⟩] 23)).alloc (.cells #[.int .i64 0, .int .i64 0, .int .i64 0, .string ⟨#[]⟩] 23) = w1 at *
  have r0 := Z0.at 0
  have v0 := Z1.at 0
  have fr0 := Z0.free 0
  have fv0 := Z1.free 0
  have r1 := Z0.at 1
  have v1 := Z1.at 1
  have fr1 := Z0.free 1
  have fv1 := Z1.free 1
  have r2 := Z0.at 2
  have v2 := Z1.at 2
  have fr2 := Z0.free 2
  have fv2 := Z1.free 2
  have r3 := Z0.at 3
  have v3 := Z1.at 3
  have fr3 := Z0.free 3
  have fv3 := Z1.free 3
  have ltr := Z0.lt
  have ltv := Z1.lt
  have hs1 := B1.size
  clear Z0 Z1
  go_upto_region 5 with fail
  obtain ⟨X, hX⟩ : ∃ X, X = (((w1.setCell ⟨w.heap.size + 1, 0, none⟩ (.int .i64 4)).setCell ⟨w.heap.size + 1, 1, none⟩ (.int .i64 0)).setCell ⟨w.heap.size + 1, 2, none⟩ (.int .i64 0)).setCell ⟨w.heap.size + 1, 3, none⟩ (.string ⟨#[]⟩) := ⟨_, rfl⟩
  have a0 : X.cell? ⟨w.heap.size, 0, none⟩ = some (.int .i64 0) := by rw [hX]; simp [go_sem, *]
  have e0 : X.cell? ⟨w.heap.size + 1, 0, none⟩ = some (.int .i64 4) := by rw [hX]; simp [go_sem, *]
  have fa0 : X.frozen? ⟨w.heap.size, 0, none⟩ = false := by rw [hX]; simp [go_sem, *]
  have fe0 : X.frozen? ⟨w.heap.size + 1, 0, none⟩ = false := by rw [hX]; simp [go_sem, *]
  have a1 : X.cell? ⟨w.heap.size, 1, none⟩ = some (.int .i64 0) := by rw [hX]; simp [go_sem, *]
  have e1 : X.cell? ⟨w.heap.size + 1, 1, none⟩ = some (.int .i64 0) := by rw [hX]; simp [go_sem, *]
  have fa1 : X.frozen? ⟨w.heap.size, 1, none⟩ = false := by rw [hX]; simp [go_sem, *]
  have fe1 : X.frozen? ⟨w.heap.size + 1, 1, none⟩ = false := by rw [hX]; simp [go_sem, *]
  have a2 : X.cell? ⟨w.heap.size, 2, none⟩ = some (.int .i64 0) := by rw [hX]; simp [go_sem, *]
  have e2 : X.cell? ⟨w.heap.size + 1, 2, none⟩ = some (.int .i64 0) := by rw [hX]; simp [go_sem, *]
  have fa2 : X.frozen? ⟨w.heap.size, 2, none⟩ = false := by rw [hX]; simp [go_sem, *]
  have fe2 : X.frozen? ⟨w.heap.size + 1, 2, none⟩ = false := by rw [hX]; simp [go_sem, *]
  have a3 : X.cell? ⟨w.heap.size, 3, none⟩ = some (.string ⟨#[]⟩) := by rw [hX]; simp [go_sem, *]
  have e3 : X.cell? ⟨w.heap.size + 1, 3, none⟩ = some (.string ⟨#[]⟩) := by rw [hX]; simp [go_sem, *]
  have fa3 : X.frozen? ⟨w.heap.size, 3, none⟩ = false := by rw [hX]; simp [go_sem, *]
  have fe3 : X.frozen? ⟨w.heap.size + 1, 3, none⟩ = false := by rw [hX]; simp [go_sem, *]
  have BX : Below w.heap.size w X := by (rw [hX]; repeat (first | with_reducible exact B1 | with_reducible refine bl_set2 ?_ (by omega) _))
  have hsX : X.heap.size = w1.heap.size := by rw [hX]; simp
  have ltX : w.heap.size < X.heap.size := by omega
  have ltX2 : w.heap.size + 1 < X.heap.size := by omega
  show Code.wp _ _ _ _ ((((w1.setCell ⟨w.heap.size + 1, 0, none⟩ (.int .i64 4)).setCell ⟨w.heap.size + 1, 1, none⟩ (.int .i64 0)).setCell ⟨w.heap.size + 1, 2, none⟩ (.int .i64 0)).setCell ⟨w.heap.size + 1, 3, none⟩ (.string ⟨#[]⟩))
  rw [← hX]
  clear hX r0 r1 r2 r3 v0 v1 v2 v3 fr0 fr1 fr2 fr3 fv0 fv1 fv2 fv3 B1 hs1 hsX
  have r0 := a0
  have r1 := a1
  have r2 := a2
  have r3 := a3
  have v0 := e0
  have v1 := e1
  have v2 := e2
  have v3 := e3
  have fr0 := fa0
  have fr1 := fa1
  have fr2 := fa2
  have fr3 := fa3
  have fv0 := fe0
  have fv1 := fe1
  have fv2 := fe2
  have fv3 := fe3
  have B1 := BX
  have hs1 := BX.size
  clear a0 a1 a2 a3 e0 e1 e2 e3 fa0 fa1 fa2 fa3 fe0 fe1 fe2 fe3 BX
  go_wp2_with fail
  refine (P _).mono ?_
  rintro e w2 ⟨rfl, b2⟩
  have R0 : w2.cell? ⟨w.heap.size, 0, none⟩ = some (.int .i64 0) := (b2.cell (p := ⟨w.heap.size, 0, none⟩) (by simp; omega)).trans (by simp [go_sem, *])
  have V0 : w2.cell? ⟨w.heap.size + 1, 0, none⟩ = some (.int .i64 4) := (b2.cell (p := ⟨w.heap.size + 1, 0, none⟩) (by simp; omega)).trans (by simp [go_sem, *])
  have F0 : w2.frozen? ⟨w.heap.size, 0, none⟩ = false := (b2.frozen (p := ⟨w.heap.size, 0, none⟩) (by simp; omega)).trans (by simp [go_sem, *])
  have R1 : w2.cell? ⟨w.heap.size, 1, none⟩ = some (.int .i64 0) := (b2.cell (p := ⟨w.heap.size, 1, none⟩) (by simp; omega)).trans (by simp [go_sem, *])
  have V1 : w2.cell? ⟨w.heap.size + 1, 1, none⟩ = some (.int .i64 1) := (b2.cell (p := ⟨w.heap.size + 1, 1, none⟩) (by simp; omega)).trans (by simp [go_sem, *])
  have F1 : w2.frozen? ⟨w.heap.size, 1, none⟩ = false := (b2.frozen (p := ⟨w.heap.size, 1, none⟩) (by simp; omega)).trans (by simp [go_sem, *])
  have R2 : w2.cell? ⟨w.heap.size, 2, none⟩ = some (.int .i64 0) := (b2.cell (p := ⟨w.heap.size, 2, none⟩) (by simp; omega)).trans (by simp [go_sem, *])
  have V2 : w2.cell? ⟨w.heap.size + 1, 2, none⟩ = some (.int .i64 0) := (b2.cell (p := ⟨w.heap.size + 1, 2, none⟩) (by simp; omega)).trans (by simp [go_sem, *])
  have F2 : w2.frozen? ⟨w.heap.size, 2, none⟩ = false := (b2.frozen (p := ⟨w.heap.size, 2, none⟩) (by simp; omega)).trans (by simp [go_sem, *])
  have R3 : w2.cell? ⟨w.heap.size, 3, none⟩ = some (.string ⟨#[]⟩) := (b2.cell (p := ⟨w.heap.size, 3, none⟩) (by simp; omega)).trans (by simp [go_sem, *])
  have V3 : w2.cell? ⟨w.heap.size + 1, 3, none⟩ = some (.string ⟨#[]⟩) := (b2.cell (p := ⟨w.heap.size + 1, 3, none⟩) (by simp; omega)).trans (by simp [go_sem, *])
  have F3 : w2.frozen? ⟨w.heap.size, 3, none⟩ = false := (b2.frozen (p := ⟨w.heap.size, 3, none⟩) (by simp; omega)).trans (by simp [go_sem, *])
  have B2 : Below w.heap.size w w2 := by (refine Below.trans ?_ (Below.mono b2 (by simp; omega)); repeat (first | with_reducible exact B1 | with_reducible refine bl_set ?_ _ | with_reducible refine Below.drew ?_ | with_reducible refine Below.alloc ?_ (by simp; omega) _ | with_reducible refine bl_set2 ?_ (by omega) _))
  have lt2 : w.heap.size < w2.heap.size := by have := b2.size; simp at this; omega
  clear b2 B1 hs1 r0 r1 r2 r3 v0 v1 v2 v3 fr0 fr1 fr2 fr3 fv0 fv1 fv2 fv3 ltr ltv
  go_wp2
  refine bodyPost_ret_by (v := .tuple #[va  4  1  0 ⟨#[]⟩, .int .i64 0]) ?_ rfl ⟨rfl, ?_⟩
  · simp [results, Tryz.results7, go_sem, R0, R1, R2, R3]
  · repeat (first | with_reducible exact B2 | with_reducible refine bl_set ?_ _)

set_option maxRecDepth 20000 in
set_option maxHeartbeats 4000000 in
theorem rpF (q : List UInt8) (S : ByteArray) (w : World) (hS : S.size = 5) (hq : (q == S.toList) = true) (n0 : S.toList.isEmpty = false) (_nN : (S.toList == [110, 117, 108, 108]) = false) (nT : (S.toList == [116, 114, 117, 101]) = false) (nF : (S.toList == [102, 97, 108, 115, 101]) = true)
    (P : ∀ W, Calls Tryz.prog 9 #[va  4  0  0 ⟨#[]⟩] W fun e w' => e = .returned (.string ⟨q.toArray⟩) ∧ Below W.heap.size W w') :
    Calls Tryz.prog 7 #[.string S] w fun e w' => e = .returned (.tuple #[va  4  0  0 ⟨#[]⟩, .int .i64 0]) ∧ Below w.heap.size w w' := by
  have Z0 : Cbox ((w.alloc (.cells #[.int .i64 0, .int .i64 0, .int .i64 0, .string ⟨#[]⟩] 23)).alloc (.cells #[.int .i64 0, .int .i64 0, .int .i64 0, .string ⟨#[]⟩] 23)) w.heap.size #[.int .i64 0, .int .i64 0, .int .i64 0, .string ⟨#[]⟩] 23 := (Cbox.new w _ _).later ((Below.refl _ _).alloc (Nat.le_refl _) _)
  have Z1 : Cbox ((w.alloc (.cells #[.int .i64 0, .int .i64 0, .int .i64 0, .string ⟨#[]⟩] 23)).alloc (.cells #[.int .i64 0, .int .i64 0, .int .i64 0, .string ⟨#[]⟩] 23)) (w.heap.size + 1) #[.int .i64 0, .int .i64 0, .int .i64 0, .string ⟨#[]⟩] 23 := by
    have := Cbox.new (w.alloc (.cells #[.int .i64 0, .int .i64 0, .int .i64 0, .string ⟨#[]⟩] 23)) #[.int .i64 0, .int .i64 0, .int .i64 0, .string ⟨#[]⟩] 23
    rwa [World.size_alloc] at this
  have B1 : Below w.heap.size w ((w.alloc (.cells #[.int .i64 0, .int .i64 0, .int .i64 0, .string ⟨#[]⟩] 23)).alloc (.cells #[.int .i64 0, .int .i64 0, .int .i64 0, .string ⟨#[]⟩] 23)) := ((Below.refl _ w).alloc (Nat.le_refl _) _).alloc (by simp) _
  go_enter Tryz.func7, Tryz.ntmps7
  go_upto_region 2 with fail
  generalize (w.alloc (.cells #[.int .i64 0, .int .i64 0, .int .i64 0, .string ⟨#[]⟩] 23)).alloc (.cells #[.int .i64 0, .int .i64 0, .int .i64 0, .string ⟨#[]⟩] 23) = w1 at *
  have r0 := Z0.at 0
  have v0 := Z1.at 0
  have fr0 := Z0.free 0
  have fv0 := Z1.free 0
  have r1 := Z0.at 1
  have v1 := Z1.at 1
  have fr1 := Z0.free 1
  have fv1 := Z1.free 1
  have r2 := Z0.at 2
  have v2 := Z1.at 2
  have fr2 := Z0.free 2
  have fv2 := Z1.free 2
  have r3 := Z0.at 3
  have v3 := Z1.at 3
  have fr3 := Z0.free 3
  have fv3 := Z1.free 3
  have ltr := Z0.lt
  have ltv := Z1.lt
  have hs1 := B1.size
  clear Z0 Z1
  go_wp2_with fail
  refine (P _).mono ?_
  rintro e w2 ⟨rfl, b2⟩
  have R0 : w2.cell? ⟨w.heap.size, 0, none⟩ = some (.int .i64 0) := (b2.cell (p := ⟨w.heap.size, 0, none⟩) (by simp; omega)).trans (by simp [go_sem, *])
  have V0 : w2.cell? ⟨w.heap.size + 1, 0, none⟩ = some (.int .i64 4) := (b2.cell (p := ⟨w.heap.size + 1, 0, none⟩) (by simp; omega)).trans (by simp [go_sem, *])
  have F0 : w2.frozen? ⟨w.heap.size, 0, none⟩ = false := (b2.frozen (p := ⟨w.heap.size, 0, none⟩) (by simp; omega)).trans (by simp [go_sem, *])
  have R1 : w2.cell? ⟨w.heap.size, 1, none⟩ = some (.int .i64 0) := (b2.cell (p := ⟨w.heap.size, 1, none⟩) (by simp; omega)).trans (by simp [go_sem, *])
  have V1 : w2.cell? ⟨w.heap.size + 1, 1, none⟩ = some (.int .i64 0) := (b2.cell (p := ⟨w.heap.size + 1, 1, none⟩) (by simp; omega)).trans (by simp [go_sem, *])
  have F1 : w2.frozen? ⟨w.heap.size, 1, none⟩ = false := (b2.frozen (p := ⟨w.heap.size, 1, none⟩) (by simp; omega)).trans (by simp [go_sem, *])
  have R2 : w2.cell? ⟨w.heap.size, 2, none⟩ = some (.int .i64 0) := (b2.cell (p := ⟨w.heap.size, 2, none⟩) (by simp; omega)).trans (by simp [go_sem, *])
  have V2 : w2.cell? ⟨w.heap.size + 1, 2, none⟩ = some (.int .i64 0) := (b2.cell (p := ⟨w.heap.size + 1, 2, none⟩) (by simp; omega)).trans (by simp [go_sem, *])
  have F2 : w2.frozen? ⟨w.heap.size, 2, none⟩ = false := (b2.frozen (p := ⟨w.heap.size, 2, none⟩) (by simp; omega)).trans (by simp [go_sem, *])
  have R3 : w2.cell? ⟨w.heap.size, 3, none⟩ = some (.string ⟨#[]⟩) := (b2.cell (p := ⟨w.heap.size, 3, none⟩) (by simp; omega)).trans (by simp [go_sem, *])
  have V3 : w2.cell? ⟨w.heap.size + 1, 3, none⟩ = some (.string ⟨#[]⟩) := (b2.cell (p := ⟨w.heap.size + 1, 3, none⟩) (by simp; omega)).trans (by simp [go_sem, *])
  have F3 : w2.frozen? ⟨w.heap.size, 3, none⟩ = false := (b2.frozen (p := ⟨w.heap.size, 3, none⟩) (by simp; omega)).trans (by simp [go_sem, *])
  have B2 : Below w.heap.size w w2 := by (refine Below.trans ?_ (Below.mono b2 (by simp; omega)); repeat (first | with_reducible exact B1 | with_reducible refine bl_set ?_ _ | with_reducible refine Below.drew ?_ | with_reducible refine Below.alloc ?_ (by simp; omega) _ | with_reducible refine bl_set2 ?_ (by omega) _))
  have lt2 : w.heap.size < w2.heap.size := by have := b2.size; simp at this; omega
  clear b2 B1 hs1 r0 r1 r2 r3 v0 v1 v2 v3 fr0 fr1 fr2 fr3 fv0 fv1 fv2 fv3 ltr ltv
  go_wp2
  refine bodyPost_ret_by (v := .tuple #[va  4  0  0 ⟨#[]⟩, .int .i64 0]) ?_ rfl ⟨rfl, ?_⟩
  · simp [results, Tryz.results7, go_sem, R0, R1, R2, R3]
  · repeat (first | with_reducible exact B2 | with_reducible refine bl_set ?_ _)

set_option maxRecDepth 20000 in
set_option maxHeartbeats 4000000 in
theorem rpE (S : ByteArray) (w : World) (hS : S.size = 0) (n0 : S.toList.isEmpty = true) (n2 : (S.toList == [116, 114, 117, 101]) = false) (n3 : (S.toList == [102, 97, 108, 115, 101]) = false) : Calls Tryz.prog 7 #[.string S] w fun e w' => e = .returned (.tuple #[va 0 0 0 ⟨#[]⟩, .int .i64 21]) ∧ Below w.heap.size w w' := by
  have Z0 : Cbox ((w.alloc (.cells #[.int .i64 0, .int .i64 0, .int .i64 0, .string ⟨#[]⟩] 23)).alloc (.cells #[.int .i64 0, .int .i64 0, .int .i64 0, .string ⟨#[]⟩] 23)) w.heap.size #[.int .i64 0, .int .i64 0, .int .i64 0, .string ⟨#[]⟩] 23 := (Cbox.new w _ _).later ((Below.refl _ _).alloc (Nat.le_refl _) _)
  have B1 : Below w.heap.size w ((w.alloc (.cells #[.int .i64 0, .int .i64 0, .int .i64 0, .string ⟨#[]⟩] 23)).alloc (.cells #[.int .i64 0, .int .i64 0, .int .i64 0, .string ⟨#[]⟩] 23)) := ((Below.refl _ w).alloc (Nat.le_refl _) _).alloc (by simp) _
  go_enter Tryz.func7, Tryz.ntmps7
  go_upto_region 2 with fail
  generalize (w.alloc (.cells #[.int .i64 0, .int .i64 0, .int .i64 0, .string ⟨#[]⟩] 23)).alloc (.cells #[.int .i64 0, .int .i64 0, .int .i64 0, .string ⟨#[]⟩] 23) = w1 at *
  have r0 := Z0.at 0
  have r1 := Z0.at 1
  have r2 := Z0.at 2
  have r3 := Z0.at 3
  have fr0 := Z0.free 0
  have fr1 := Z0.free 1
  have fr2 := Z0.free 2
  have fr3 := Z0.free 3
  have ltr := Z0.lt
  go_wp2
  refine bodyPost_ret_by (v := .tuple #[va 0 0 0 ⟨#[]⟩, .int .i64 21]) ?_ rfl ⟨rfl, ?_⟩
  · simp [results, Tryz.results7, go_sem, r0, r1, r2, r3]
  · repeat (first | with_reducible exact B1 | with_reducible refine bl_set ?_ _)
end Go.Proofs.YtibbenhplmmmiaaGreatDoor.Dt

namespace Go.Proofs.YtibbenhplmmmiaaGreatDoor
open Go.ChangeShapes Go.WideShapes Go.ChangeAt Go.WideMaps Go.WideElems Go.RowKit Go.Shelf Go.Lib

theorem dtx_b : joinedFacts Tryz.pinned.checked.prog 3 Tryz.f3 Rows.datumTextsSpec Rows.datumTextsRow = true := by kernel_rfl
end Go.Proofs.YtibbenhplmmmiaaGreatDoor
