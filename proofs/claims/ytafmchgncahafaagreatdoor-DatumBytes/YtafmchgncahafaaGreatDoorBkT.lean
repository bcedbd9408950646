/-
  datum.takeValue, kind by kind.
-/
import Derived.Test.YtafmchgncahafaaGreatDoorMSBkM
namespace Go.Proofs.YtafmchgncahafaaGreatDoor.Bk
open Go.RowKit Go.Proofs.YtafmchgncahafaaGreatDoor.Co
attribute [local go_sem] cell?_more frozen?_more setCell_more more_lt more_more more_drew more_drewN setCell_drewN alloc_drewN

set_option maxRecDepth 20000 in
set_option maxHeartbeats 4000000 in
theorem tv0 (p : Nat) (bs : List UInt8) (k k1 e e1 : Nat) (kk : Int) (q0 : (kk == 1) = false) (q1 : (kk == 4) = false) (q2 : (kk == 2) = false) (q3 : (kk == 5) = false) (q4 : (kk == 3) = false) (w : World) (h : Rdr w p bs k e) (h1 : rNum bs k e = (kk, k1, e1)) :
    Calls Tryz.prog 23 #[.pointer (some ⟨p, 0, none⟩)] w fun x w' => x = .returned (va kk 0 0 ⟨#[]⟩) ∧ Rdr w' p bs k1 e1 ∧ w.grownBy w' (some p) := by
  have hp := rdr_lt h
  have np : w.heap.size ≠ p := by omega
  have uA : Below w.heap.size w (w.alloc (.cells #[.int .i64 0, .int .i64 0, .int .i64 0, .string ⟨#[]⟩] 47)) := (Below.refl _ w).alloc (Nat.le_refl _) _
  have RA := rdr_later h uA
  have CA := Cbox.new w #[.int .i64 0, .int .i64 0, .int .i64 0, .string ⟨#[]⟩] 47
  have sA : w.heap.size < (w.alloc (.cells #[.int .i64 0, .int .i64 0, .int .i64 0, .string ⟨#[]⟩] 47)).heap.size := by simp
  go_enter Tryz.func23, Tryz.ntmps23
  go_upto_region 1 with fail
  generalize w.alloc (.cells #[.int .i64 0, .int .i64 0, .int .i64 0, .string ⟨#[]⟩] 47) = wA at *
  go_wp2_with fail
  have N1 := rNumber_any p bs k e wA RA
  rw [h1] at N1
  refine N1.mono ?_
  rintro x w1 ⟨rfl, R1, g1⟩
  have C1 := cbox_grown CA g1 (by simpa using np)
  have G1 := gb_step (gb_of (r := some p) uA) g1
  have s1 := g1.size
  have n1 : w1.heap.size ≠ p := by omega
  have uV : Below w1.heap.size w1 (w1.alloc (.cells #[.int .i64 kk, .int .i64 0, .int .i64 0, .string ⟨#[]⟩] 47)) := (Below.refl _ _).alloc (Nat.le_refl _) _
  have R2 := rdr_later R1 uV
  have C2 := C1.later uV
  have V2 := Cbox.new w1 #[.int .i64 kk, .int .i64 0, .int .i64 0, .string ⟨#[]⟩] 47
  have G2 := gb_step G1 (gb_of uV)
  have hne12 : w.heap.size ≠ w1.heap.size := by omega
  dsimp only
  go_upto_region 2 with fail
  generalize w1.alloc (.cells #[.int .i64 kk, .int .i64 0, .int .i64 0, .string ⟨#[]⟩] 47) = w2 at *
  clear N1 RA CA uA uV R1 C1 h1
  have v0 := V2.at 0
  have fv0 := V2.free 0
  have c0 := C2.at 0
  have fc0 := C2.free 0
  have v1 := V2.at 1
  have fv1 := V2.free 1
  have c1 := C2.at 1
  have fc1 := C2.free 1
  have v2 := V2.at 2
  have fv2 := V2.free 2
  have c2 := C2.at 2
  have fc2 := C2.free 2
  have v3 := V2.at 3
  have fv3 := V2.free 3
  have c3 := C2.at 3
  have fc3 := C2.free 3
  have vl := V2.lt
  have cl := C2.lt
  have RBf : RB _ p bs k1 e1 w.heap.size w1.heap.size := ⟨R2, ⟨np, _, c0⟩, ⟨n1, _, v0⟩⟩
  have hg1 : w.heap.size ≤ w1.heap.size := G1.size
  clear V2 C2 R2
  go_wp2
  refine bodyPost_ret_by (v := va kk 0 0 ⟨#[]⟩) ?_ rfl ⟨rfl, ?_, ?_⟩
  · simp [results, Tryz.results23, go_sem, c0, c1, c2, c3]
  · refine (?_ : RB _ p bs k1 e1 w.heap.size w1.heap.size).1
    repeat (first | with_reducible exact RBf | (with_reducible refine RB.set1 ?_ (by intro h; first | exact ⟨_, rfl⟩ | cases h)) | (with_reducible refine RB.set2 ?_ (by intro h; first | exact ⟨_, rfl⟩ | cases h)))
  · repeat (first | with_reducible exact G2 | with_reducible refine gb_new ?_ _ _ _ (Nat.le_refl _) | with_reducible refine gb_new ?_ _ _ _ hg1)

set_option maxRecDepth 20000 in
set_option maxHeartbeats 4000000 in
theorem tv1 (p : Nat) (bs : List UInt8) (k k1 k2 e e1 e2 : Nat) (n : Int) (w : World) (h : Rdr w p bs k e) (h1 : rNum bs k e = (1, k1, e1)) (h2 : rNum bs k1 e1 = (n, k2, e2)) :
    Calls Tryz.prog 23 #[.pointer (some ⟨p, 0, none⟩)] w fun x w' => x = .returned (va 1 n 0 ⟨#[]⟩) ∧ Rdr w' p bs k2 e2 ∧ w.grownBy w' (some p) := by
  have hp := rdr_lt h
  have np : w.heap.size ≠ p := by omega
  have uA : Below w.heap.size w (w.alloc (.cells #[.int .i64 0, .int .i64 0, .int .i64 0, .string ⟨#[]⟩] 47)) := (Below.refl _ w).alloc (Nat.le_refl _) _
  have RA := rdr_later h uA
  have CA := Cbox.new w #[.int .i64 0, .int .i64 0, .int .i64 0, .string ⟨#[]⟩] 47
  have sA : w.heap.size < (w.alloc (.cells #[.int .i64 0, .int .i64 0, .int .i64 0, .string ⟨#[]⟩] 47)).heap.size := by simp
  go_enter Tryz.func23, Tryz.ntmps23
  go_upto_region 1 with fail
  generalize w.alloc (.cells #[.int .i64 0, .int .i64 0, .int .i64 0, .string ⟨#[]⟩] 47) = wA at *
  go_wp2_with fail
  have N1 := rNumber_any p bs k e wA RA
  rw [h1] at N1
  refine N1.mono ?_
  rintro x w1 ⟨rfl, R1, g1⟩
  have C1 := cbox_grown CA g1 (by simpa using np)
  have G1 := gb_step (gb_of (r := some p) uA) g1
  have s1 := g1.size
  have n1 : w1.heap.size ≠ p := by omega
  have uV : Below w1.heap.size w1 (w1.alloc (.cells #[.int .i64 1, .int .i64 0, .int .i64 0, .string ⟨#[]⟩] 47)) := (Below.refl _ _).alloc (Nat.le_refl _) _
  have R2 := rdr_later R1 uV
  have C2 := C1.later uV
  have V2 := Cbox.new w1 #[.int .i64 1, .int .i64 0, .int .i64 0, .string ⟨#[]⟩] 47
  have G2 := gb_step G1 (gb_of uV)
  have hne12 : w.heap.size ≠ w1.heap.size := by omega
  dsimp only
  go_upto_region 2 with fail
  generalize w1.alloc (.cells #[.int .i64 1, .int .i64 0, .int .i64 0, .string ⟨#[]⟩] 47) = w2 at *
  clear N1 RA CA uA uV R1 C1 h1
  have v0 := V2.at 0
  have v1 := V2.at 1
  have v2 := V2.at 2
  have v3 := V2.at 3
  have vl := V2.lt
  go_wp2_with fail
  have N3 := rNumber_any p bs k1 e1 _ R2
  rw [h2] at N3
  refine N3.mono ?_
  rintro x w3 ⟨rfl, R3, g3⟩
  have C3 := cbox_grown C2 g3 (by simpa using np)
  have V3 := cbox_grown V2 g3 (by simpa using n1)
  have G3 := gb_step G2 g3
  clear v0 v1 v2 v3 vl
  dsimp only
  have v0 := V3.at 0
  have fv0 := V3.free 0
  have c0 := C3.at 0
  have fc0 := C3.free 0
  have v1 := V3.at 1
  have fv1 := V3.free 1
  have c1 := C3.at 1
  have fc1 := C3.free 1
  have v2 := V3.at 2
  have fv2 := V3.free 2
  have c2 := C3.at 2
  have fc2 := C3.free 2
  have v3 := V3.at 3
  have fv3 := V3.free 3
  have c3 := C3.at 3
  have fc3 := C3.free 3
  have vl := V3.lt
  have cl := C3.lt
  have RBf : RB _ p bs k2 e2 w.heap.size w1.heap.size := ⟨R3, ⟨np, _, c0⟩, ⟨n1, _, v0⟩⟩
  have hg1 : w.heap.size ≤ w1.heap.size := G1.size
  clear V3 C3 R3
  go_wp2
  refine bodyPost_ret_by (v := va 1 n 0 ⟨#[]⟩) ?_ rfl ⟨rfl, ?_, ?_⟩
  · simp [results, Tryz.results23, go_sem, c0, c1, c2, c3]
  · refine (?_ : RB _ p bs k2 e2 w.heap.size w1.heap.size).1
    repeat (first | with_reducible exact RBf | (with_reducible refine RB.set1 ?_ (by intro h; first | exact ⟨_, rfl⟩ | cases h)) | (with_reducible refine RB.set2 ?_ (by intro h; first | exact ⟨_, rfl⟩ | cases h)))
  · repeat (first | with_reducible exact G3 | with_reducible refine gb_new ?_ _ _ _ (Nat.le_refl _) | with_reducible refine gb_new ?_ _ _ _ hg1)

set_option maxRecDepth 20000 in
set_option maxHeartbeats 4000000 in
theorem tv4 (p : Nat) (bs : List UInt8) (k k1 k2 e e1 e2 : Nat) (n : Int) (w : World) (h : Rdr w p bs k e) (h1 : rNum bs k e = (4, k1, e1)) (h2 : rNum bs k1 e1 = (n, k2, e2)) :
    Calls Tryz.prog 23 #[.pointer (some ⟨p, 0, none⟩)] w fun x w' => x = .returned (va 4 n 0 ⟨#[]⟩) ∧ Rdr w' p bs k2 e2 ∧ w.grownBy w' (some p) := by
  have hp := rdr_lt h
  have np : w.heap.size ≠ p := by omega
  have uA : Below w.heap.size w (w.alloc (.cells #[.int .i64 0, .int .i64 0, .int .i64 0, .string ⟨#[]⟩] 47)) := (Below.refl _ w).alloc (Nat.le_refl _) _
  have RA := rdr_later h uA
  have CA := Cbox.new w #[.int .i64 0, .int .i64 0, .int .i64 0, .string ⟨#[]⟩] 47
  have sA : w.heap.size < (w.alloc (.cells #[.int .i64 0, .int .i64 0, .int .i64 0, .string ⟨#[]⟩] 47)).heap.size := by simp
  go_enter Tryz.func23, Tryz.ntmps23
  go_upto_region 1 with fail
  generalize w.alloc (.cells #[.int .i64 0, .int .i64 0, .int .i64 0, .string ⟨#[]⟩] 47) = wA at *
  go_wp2_with fail
  have N1 := rNumber_any p bs k e wA RA
  rw [h1] at N1
  refine N1.mono ?_
  rintro x w1 ⟨rfl, R1, g1⟩
  have C1 := cbox_grown CA g1 (by simpa using np)
  have G1 := gb_step (gb_of (r := some p) uA) g1
  have s1 := g1.size
  have n1 : w1.heap.size ≠ p := by omega
  have uV : Below w1.heap.size w1 (w1.alloc (.cells #[.int .i64 4, .int .i64 0, .int .i64 0, .string ⟨#[]⟩] 47)) := (Below.refl _ _).alloc (Nat.le_refl _) _
  have R2 := rdr_later R1 uV
  have C2 := C1.later uV
  have V2 := Cbox.new w1 #[.int .i64 4, .int .i64 0, .int .i64 0, .string ⟨#[]⟩] 47
  have G2 := gb_step G1 (gb_of uV)
  have hne12 : w.heap.size ≠ w1.heap.size := by omega
  dsimp only
  go_upto_region 2 with fail
  generalize w1.alloc (.cells #[.int .i64 4, .int .i64 0, .int .i64 0, .string ⟨#[]⟩] 47) = w2 at *
  clear N1 RA CA uA uV R1 C1 h1
  have v0 := V2.at 0
  have v1 := V2.at 1
  have v2 := V2.at 2
  have v3 := V2.at 3
  have vl := V2.lt
  go_wp2_with fail
  have N3 := rNumber_any p bs k1 e1 _ R2
  rw [h2] at N3
  refine N3.mono ?_
  rintro x w3 ⟨rfl, R3, g3⟩
  have C3 := cbox_grown C2 g3 (by simpa using np)
  have V3 := cbox_grown V2 g3 (by simpa using n1)
  have G3 := gb_step G2 g3
  clear v0 v1 v2 v3 vl
  dsimp only
  have v0 := V3.at 0
  have fv0 := V3.free 0
  have c0 := C3.at 0
  have fc0 := C3.free 0
  have v1 := V3.at 1
  have fv1 := V3.free 1
  have c1 := C3.at 1
  have fc1 := C3.free 1
  have v2 := V3.at 2
  have fv2 := V3.free 2
  have c2 := C3.at 2
  have fc2 := C3.free 2
  have v3 := V3.at 3
  have fv3 := V3.free 3
  have c3 := C3.at 3
  have fc3 := C3.free 3
  have vl := V3.lt
  have cl := C3.lt
  have RBf : RB _ p bs k2 e2 w.heap.size w1.heap.size := ⟨R3, ⟨np, _, c0⟩, ⟨n1, _, v0⟩⟩
  have hg1 : w.heap.size ≤ w1.heap.size := G1.size
  clear V3 C3 R3
  go_wp2
  refine bodyPost_ret_by (v := va 4 n 0 ⟨#[]⟩) ?_ rfl ⟨rfl, ?_, ?_⟩
  · simp [results, Tryz.results23, go_sem, c0, c1, c2, c3]
  · refine (?_ : RB _ p bs k2 e2 w.heap.size w1.heap.size).1
    repeat (first | with_reducible exact RBf | (with_reducible refine RB.set1 ?_ (by intro h; first | exact ⟨_, rfl⟩ | cases h)) | (with_reducible refine RB.set2 ?_ (by intro h; first | exact ⟨_, rfl⟩ | cases h)))
  · repeat (first | with_reducible exact G3 | with_reducible refine gb_new ?_ _ _ _ (Nat.le_refl _) | with_reducible refine gb_new ?_ _ _ _ hg1)

set_option maxRecDepth 20000 in
set_option maxHeartbeats 4000000 in
theorem tv2 (p : Nat) (bs : List UInt8) (k k1 k2 k3 e e1 e2 e3 : Nat) (n : Int) (m : Int) (w : World) (h : Rdr w p bs k e) (h1 : rNum bs k e = (2, k1, e1)) (h2 : rNum bs k1 e1 = (n, k2, e2)) (h3 : rNum bs k2 e2 = (m, k3, e3)) :
    Calls Tryz.prog 23 #[.pointer (some ⟨p, 0, none⟩)] w fun x w' => x = .returned (va 2 n m ⟨#[]⟩) ∧ Rdr w' p bs k3 e3 ∧ w.grownBy w' (some p) := by
  have hp := rdr_lt h
  have np : w.heap.size ≠ p := by omega
  have uA : Below w.heap.size w (w.alloc (.cells #[.int .i64 0, .int .i64 0, .int .i64 0, .string ⟨#[]⟩] 47)) := (Below.refl _ w).alloc (Nat.le_refl _) _
  have RA := rdr_later h uA
  have CA := Cbox.new w #[.int .i64 0, .int .i64 0, .int .i64 0, .string ⟨#[]⟩] 47
  have sA : w.heap.size < (w.alloc (.cells #[.int .i64 0, .int .i64 0, .int .i64 0, .string ⟨#[]⟩] 47)).heap.size := by simp
  go_enter Tryz.func23, Tryz.ntmps23
  go_upto_region 1 with fail
  generalize w.alloc (.cells #[.int .i64 0, .int .i64 0, .int .i64 0, .string ⟨#[]⟩] 47) = wA at *
  go_wp2_with fail
  have N1 := rNumber_any p bs k e wA RA
  rw [h1] at N1
  refine N1.mono ?_
  rintro x w1 ⟨rfl, R1, g1⟩
  have C1 := cbox_grown CA g1 (by simpa using np)
  have G1 := gb_step (gb_of (r := some p) uA) g1
  have s1 := g1.size
  have n1 : w1.heap.size ≠ p := by omega
  have uV : Below w1.heap.size w1 (w1.alloc (.cells #[.int .i64 2, .int .i64 0, .int .i64 0, .string ⟨#[]⟩] 47)) := (Below.refl _ _).alloc (Nat.le_refl _) _
  have R2 := rdr_later R1 uV
  have C2 := C1.later uV
  have V2 := Cbox.new w1 #[.int .i64 2, .int .i64 0, .int .i64 0, .string ⟨#[]⟩] 47
  have G2 := gb_step G1 (gb_of uV)
  have hne12 : w.heap.size ≠ w1.heap.size := by omega
  dsimp only
  go_upto_region 2 with fail
  generalize w1.alloc (.cells #[.int .i64 2, .int .i64 0, .int .i64 0, .string ⟨#[]⟩] 47) = w2 at *
  clear N1 RA CA uA uV R1 C1 h1
  have v0 := V2.at 0
  have v1 := V2.at 1
  have v2 := V2.at 2
  have v3 := V2.at 3
  have vl := V2.lt
  go_wp2_with fail
  have N3 := rNumber_any p bs k1 e1 _ R2
  rw [h2] at N3
  refine N3.mono ?_
  rintro x w3 ⟨rfl, R3, g3⟩
  have C3 := cbox_grown C2 g3 (by simpa using np)
  have V3 := cbox_grown V2 g3 (by simpa using n1)
  have G3 := gb_step G2 g3
  clear v0 v1 v2 v3 vl
  dsimp only
  have v0 := V3.at 0
  have fv0 := V3.free 0
  have v1 := V3.at 1
  have fv1 := V3.free 1
  have v2 := V3.at 2
  have fv2 := V3.free 2
  have v3 := V3.at 3
  have fv3 := V3.free 3
  have vl := V3.lt
  have RBx : RB w3 p bs k2 e2 w.heap.size w1.heap.size := ⟨R3, ⟨np, _, C3.at 0⟩, ⟨n1, _, V3.at 0⟩⟩
  have RBy := RBx.set2 (j := 1) (v := .int .i64 n) (by intro h; cases h)
  have Cy : Cbox (w3.setCell ⟨w1.heap.size, 1, none⟩ (.int .i64 n)) w.heap.size #[.int .i64 0, .int .i64 0, .int .i64 0, .string ⟨#[]⟩] 47 := by unfold Cbox; rw [heap_off _ _ _ _ _ hne12]; exact C3
  have Vy : Cbox (w3.setCell ⟨w1.heap.size, 1, none⟩ (.int .i64 n)) w1.heap.size #[.int .i64 2, .int .i64 n, .int .i64 0, .string ⟨#[]⟩] 47 := heap_setCell_same w3 w1.heap.size 1 _ _ _ V3
  have Gy := gb_new G3 w1.heap.size 1 (.int .i64 n) (by have := G1.size; omega)
  go_upto_region 9 with fail
  generalize w3.setCell ⟨w1.heap.size, 1, none⟩ (.int .i64 n) = y3 at *
  clear v0 v1 v2 v3 vl fv0 fv1 fv2 fv3 RBx V3 C3 R3
  have R3 := RBy.1
  have V3 := Vy
  have C3 := Cy
  have G3 := Gy
  have v0 := V3.at 0
  have v1 := V3.at 1
  have v2 := V3.at 2
  have v3 := V3.at 3
  have vl := V3.lt
  go_wp2_with fail
  have N4 := rNumber_any p bs k2 e2 _ R3
  rw [h3] at N4
  refine N4.mono ?_
  rintro x w4 ⟨rfl, R4, g4⟩
  have C4 := cbox_grown C3 g4 (by simpa using np)
  have V4 := cbox_grown V3 g4 (by simpa using n1)
  have G4 := gb_step G3 g4
  clear v0 v1 v2 v3 vl
  dsimp only
  have v0 := V4.at 0
  have fv0 := V4.free 0
  have c0 := C4.at 0
  have fc0 := C4.free 0
  have v1 := V4.at 1
  have fv1 := V4.free 1
  have c1 := C4.at 1
  have fc1 := C4.free 1
  have v2 := V4.at 2
  have fv2 := V4.free 2
  have c2 := C4.at 2
  have fc2 := C4.free 2
  have v3 := V4.at 3
  have fv3 := V4.free 3
  have c3 := C4.at 3
  have fc3 := C4.free 3
  have vl := V4.lt
  have cl := C4.lt
  have RBf : RB _ p bs k3 e3 w.heap.size w1.heap.size := ⟨R4, ⟨np, _, c0⟩, ⟨n1, _, v0⟩⟩
  have hg1 : w.heap.size ≤ w1.heap.size := G1.size
  clear V4 C4 R4
  go_wp2
  refine bodyPost_ret_by (v := va 2 n m ⟨#[]⟩) ?_ rfl ⟨rfl, ?_, ?_⟩
  · simp [results, Tryz.results23, go_sem, c0, c1, c2, c3]
  · refine (?_ : RB _ p bs k3 e3 w.heap.size w1.heap.size).1
    repeat (first | with_reducible exact RBf | (with_reducible refine RB.set1 ?_ (by intro h; first | exact ⟨_, rfl⟩ | cases h)) | (with_reducible refine RB.set2 ?_ (by intro h; first | exact ⟨_, rfl⟩ | cases h)))
  · repeat (first | with_reducible exact G4 | with_reducible refine gb_new ?_ _ _ _ (Nat.le_refl _) | with_reducible refine gb_new ?_ _ _ _ hg1)

set_option maxRecDepth 20000 in
set_option maxHeartbeats 4000000 in
theorem tv5 (p : Nat) (bs : List UInt8) (k k1 k2 k3 e e1 e2 e3 : Nat) (n : Int) (m : Int) (w : World) (h : Rdr w p bs k e) (h1 : rNum bs k e = (5, k1, e1)) (h2 : rNum bs k1 e1 = (n, k2, e2)) (h3 : rNum bs k2 e2 = (m, k3, e3)) :
    Calls Tryz.prog 23 #[.pointer (some ⟨p, 0, none⟩)] w fun x w' => x = .returned (va 5 n m ⟨#[]⟩) ∧ Rdr w' p bs k3 e3 ∧ w.grownBy w' (some p) := by
  have hp := rdr_lt h
  have np : w.heap.size ≠ p := by omega
  have uA : Below w.heap.size w (w.alloc (.cells #[.int .i64 0, .int .i64 0, .int .i64 0, .string ⟨#[]⟩] 47)) := (Below.refl _ w).alloc (Nat.le_refl _) _
  have RA := rdr_later h uA
  have CA := Cbox.new w #[.int .i64 0, .int .i64 0, .int .i64 0, .string ⟨#[]⟩] 47
  have sA : w.heap.size < (w.alloc (.cells #[.int .i64 0, .int .i64 0, .int .i64 0, .string ⟨#[]⟩] 47)).heap.size := by simp
  go_enter Tryz.func23, Tryz.ntmps23
  go_upto_region 1 with fail
  generalize w.alloc (.cells #[.int .i64 0, .int .i64 0, .int .i64 0, .string ⟨#[]⟩] 47) = wA at *
  go_wp2_with fail
  have N1 := rNumber_any p bs k e wA RA
  rw [h1] at N1
  refine N1.mono ?_
  rintro x w1 ⟨rfl, R1, g1⟩
  have C1 := cbox_grown CA g1 (by simpa using np)
  have G1 := gb_step (gb_of (r := some p) uA) g1
  have s1 := g1.size
  have n1 : w1.heap.size ≠ p := by omega
  have uV : Below w1.heap.size w1 (w1.alloc (.cells #[.int .i64 5, .int .i64 0, .int .i64 0, .string ⟨#[]⟩] 47)) := (Below.refl _ _).alloc (Nat.le_refl _) _
  have R2 := rdr_later R1 uV
  have C2 := C1.later uV
  have V2 := Cbox.new w1 #[.int .i64 5, .int .i64 0, .int .i64 0, .string ⟨#[]⟩] 47
  have G2 := gb_step G1 (gb_of uV)
  have hne12 : w.heap.size ≠ w1.heap.size := by omega
  dsimp only
  go_upto_region 2 with fail
  generalize w1.alloc (.cells #[.int .i64 5, .int .i64 0, .int .i64 0, .string ⟨#[]⟩] 47) = w2 at *
  clear N1 RA CA uA uV R1 C1 h1
  have v0 := V2.at 0
  have v1 := V2.at 1
  have v2 := V2.at 2
  have v3 := V2.at 3
  have vl := V2.lt
  go_wp2_with fail
  have N3 := rNumber_any p bs k1 e1 _ R2
  rw [h2] at N3
  refine N3.mono ?_
  rintro x w3 ⟨rfl, R3, g3⟩
  have C3 := cbox_grown C2 g3 (by simpa using np)
  have V3 := cbox_grown V2 g3 (by simpa using n1)
  have G3 := gb_step G2 g3
  clear v0 v1 v2 v3 vl
  dsimp only
  have v0 := V3.at 0
  have fv0 := V3.free 0
  have v1 := V3.at 1
  have fv1 := V3.free 1
  have v2 := V3.at 2
  have fv2 := V3.free 2
  have v3 := V3.at 3
  have fv3 := V3.free 3
  have vl := V3.lt
  have RBx : RB w3 p bs k2 e2 w.heap.size w1.heap.size := ⟨R3, ⟨np, _, C3.at 0⟩, ⟨n1, _, V3.at 0⟩⟩
  have RBy := RBx.set2 (j := 1) (v := .int .i64 n) (by intro h; cases h)
  have Cy : Cbox (w3.setCell ⟨w1.heap.size, 1, none⟩ (.int .i64 n)) w.heap.size #[.int .i64 0, .int .i64 0, .int .i64 0, .string ⟨#[]⟩] 47 := by unfold Cbox; rw [heap_off _ _ _ _ _ hne12]; exact C3
  have Vy : Cbox (w3.setCell ⟨w1.heap.size, 1, none⟩ (.int .i64 n)) w1.heap.size #[.int .i64 5, .int .i64 n, .int .i64 0, .string ⟨#[]⟩] 47 := heap_setCell_same w3 w1.heap.size 1 _ _ _ V3
  have Gy := gb_new G3 w1.heap.size 1 (.int .i64 n) (by have := G1.size; omega)
  go_upto_region 9 with fail
  generalize w3.setCell ⟨w1.heap.size, 1, none⟩ (.int .i64 n) = y3 at *
  clear v0 v1 v2 v3 vl fv0 fv1 fv2 fv3 RBx V3 C3 R3
  have R3 := RBy.1
  have V3 := Vy
  have C3 := Cy
  have G3 := Gy
  have v0 := V3.at 0
  have v1 := V3.at 1
  have v2 := V3.at 2
  have v3 := V3.at 3
  have vl := V3.lt
  go_wp2_with fail
  have N4 := rNumber_any p bs k2 e2 _ R3
  rw [h3] at N4
  refine N4.mono ?_
  rintro x w4 ⟨rfl, R4, g4⟩
  have C4 := cbox_grown C3 g4 (by simpa using np)
  have V4 := cbox_grown V3 g4 (by simpa using n1)
  have G4 := gb_step G3 g4
  clear v0 v1 v2 v3 vl
  dsimp only
  have v0 := V4.at 0
  have fv0 := V4.free 0
  have c0 := C4.at 0
  have fc0 := C4.free 0
  have v1 := V4.at 1
  have fv1 := V4.free 1
  have c1 := C4.at 1
  have fc1 := C4.free 1
  have v2 := V4.at 2
  have fv2 := V4.free 2
  have c2 := C4.at 2
  have fc2 := C4.free 2
  have v3 := V4.at 3
  have fv3 := V4.free 3
  have c3 := C4.at 3
  have fc3 := C4.free 3
  have vl := V4.lt
  have cl := C4.lt
  have RBf : RB _ p bs k3 e3 w.heap.size w1.heap.size := ⟨R4, ⟨np, _, c0⟩, ⟨n1, _, v0⟩⟩
  have hg1 : w.heap.size ≤ w1.heap.size := G1.size
  clear V4 C4 R4
  go_wp2
  refine bodyPost_ret_by (v := va 5 n m ⟨#[]⟩) ?_ rfl ⟨rfl, ?_, ?_⟩
  · simp [results, Tryz.results23, go_sem, c0, c1, c2, c3]
  · refine (?_ : RB _ p bs k3 e3 w.heap.size w1.heap.size).1
    repeat (first | with_reducible exact RBf | (with_reducible refine RB.set1 ?_ (by intro h; first | exact ⟨_, rfl⟩ | cases h)) | (with_reducible refine RB.set2 ?_ (by intro h; first | exact ⟨_, rfl⟩ | cases h)))
  · repeat (first | with_reducible exact G4 | with_reducible refine gb_new ?_ _ _ _ (Nat.le_refl _) | with_reducible refine gb_new ?_ _ _ _ hg1)

set_option maxRecDepth 20000 in
set_option maxHeartbeats 4000000 in
theorem tv3 (p : Nat) (bs : List UInt8) (k k1 k2 e e1 e2 : Nat) (b : List UInt8) (w : World) (h : Rdr w p bs k e) (h1 : rNum bs k e = (3, k1, e1)) (h2 : rTxt bs k1 e1 = (b, k2, e2)) :
    Calls Tryz.prog 23 #[.pointer (some ⟨p, 0, none⟩)] w fun x w' => x = .returned (va 3 0 0 ⟨b.toArray⟩) ∧ Rdr w' p bs k2 e2 ∧ w.grownBy w' (some p) := by
  have hp := rdr_lt h
  have np : w.heap.size ≠ p := by omega
  have uA : Below w.heap.size w (w.alloc (.cells #[.int .i64 0, .int .i64 0, .int .i64 0, .string ⟨#[]⟩] 47)) := (Below.refl _ w).alloc (Nat.le_refl _) _
  have RA := rdr_later h uA
  have CA := Cbox.new w #[.int .i64 0, .int .i64 0, .int .i64 0, .string ⟨#[]⟩] 47
  have sA : w.heap.size < (w.alloc (.cells #[.int .i64 0, .int .i64 0, .int .i64 0, .string ⟨#[]⟩] 47)).heap.size := by simp
  go_enter Tryz.func23, Tryz.ntmps23
  go_upto_region 1 with fail
  generalize w.alloc (.cells #[.int .i64 0, .int .i64 0, .int .i64 0, .string ⟨#[]⟩] 47) = wA at *
  go_wp2_with fail
  have N1 := rNumber_any p bs k e wA RA
  rw [h1] at N1
  refine N1.mono ?_
  rintro x w1 ⟨rfl, R1, g1⟩
  have C1 := cbox_grown CA g1 (by simpa using np)
  have G1 := gb_step (gb_of (r := some p) uA) g1
  have s1 := g1.size
  have n1 : w1.heap.size ≠ p := by omega
  have uV : Below w1.heap.size w1 (w1.alloc (.cells #[.int .i64 3, .int .i64 0, .int .i64 0, .string ⟨#[]⟩] 47)) := (Below.refl _ _).alloc (Nat.le_refl _) _
  have R2 := rdr_later R1 uV
  have C2 := C1.later uV
  have V2 := Cbox.new w1 #[.int .i64 3, .int .i64 0, .int .i64 0, .string ⟨#[]⟩] 47
  have G2 := gb_step G1 (gb_of uV)
  have hne12 : w.heap.size ≠ w1.heap.size := by omega
  dsimp only
  go_upto_region 2 with fail
  generalize w1.alloc (.cells #[.int .i64 3, .int .i64 0, .int .i64 0, .string ⟨#[]⟩] 47) = w2 at *
  clear N1 RA CA uA uV R1 C1 h1
  have v0 := V2.at 0
  have v1 := V2.at 1
  have v2 := V2.at 2
  have v3 := V2.at 3
  have vl := V2.lt
  go_wp2_with fail
  have N3 := rText_any p bs k1 e1 _ R2
  rw [h2] at N3
  refine N3.mono ?_
  rintro x w3 ⟨rfl, R3, g3⟩
  have C3 := cbox_grown C2 g3 (by simpa using np)
  have V3 := cbox_grown V2 g3 (by simpa using n1)
  have G3 := gb_step G2 g3
  clear v0 v1 v2 v3 vl
  dsimp only
  have v0 := V3.at 0
  have fv0 := V3.free 0
  have c0 := C3.at 0
  have fc0 := C3.free 0
  have v1 := V3.at 1
  have fv1 := V3.free 1
  have c1 := C3.at 1
  have fc1 := C3.free 1
  have v2 := V3.at 2
  have fv2 := V3.free 2
  have c2 := C3.at 2
  have fc2 := C3.free 2
  have v3 := V3.at 3
  have fv3 := V3.free 3
  have c3 := C3.at 3
  have fc3 := C3.free 3
  have vl := V3.lt
  have cl := C3.lt
  have RBf : RB _ p bs k2 e2 w.heap.size w1.heap.size := ⟨R3, ⟨np, _, c0⟩, ⟨n1, _, v0⟩⟩
  have hg1 : w.heap.size ≤ w1.heap.size := G1.size
  clear V3 C3 R3
  go_wp2
  refine bodyPost_ret_by (v := va 3 0 0 ⟨b.toArray⟩) ?_ rfl ⟨rfl, ?_, ?_⟩
  · simp [results, Tryz.results23, go_sem, c0, c1, c2, c3]
  · refine (?_ : RB _ p bs k2 e2 w.heap.size w1.heap.size).1
    repeat (first | with_reducible exact RBf | (with_reducible refine RB.set1 ?_ (by intro h; first | exact ⟨_, rfl⟩ | cases h)) | (with_reducible refine RB.set2 ?_ (by intro h; first | exact ⟨_, rfl⟩ | cases h)))
  · repeat (first | with_reducible exact G3 | with_reducible refine gb_new ?_ _ _ _ (Nat.le_refl _) | with_reducible refine gb_new ?_ _ _ _ hg1)
end Go.Proofs.YtafmchgncahafaaGreatDoor.Bk
