/-
  The walk of CodecWrites where the text is not too long.
-/
import Derived.Test.YtdjilmcpkeckoaaDoorWritesP
import Derived.Deep.DrawnRows
namespace Go.Proofs.YtdjilmcpkeckoaaDoor
open Go.RowKit
attribute [local go_sem ↓] Go.wp_at_zero Go.wp_at_succ

set_option maxHeartbeats 40000000 in
theorem writes_fits (k : Int) (s : ByteArray) (ao : Option Addr) (n cap : Nat) (bs : List UInt8) (w : World) (hT : Tab w) (hr : Rd w ao n cap bs) (hk0 : -9223372036854775808 ≤ k) (hk1 : k ≤ 9223372036854775807) (hs : s.size ≤ 1048576) (hc : cap ≤ 140737488351232) :
    Calls Tryd.prog 3 #[.int .i64 k, .string s, .slice ao n cap] w fun e w' => e = .returned (.bool true) ∧ Below w.heap.size w w' := by
  have hnc := hr.2.1
  have hs' : ¬ (1048576 : Int) < (s.size : Int) := by omega
  go_enter Tryd.func3, Tryd.ntmps3
  go_wp2_with fail
  refine (lent_any ao n cap bs _ hr (by omega)).mono ?_
  rintro e w1 ⟨g, c, rfl, hg, hm1, b1⟩
  have z1 := b1.size
  have T1 := hT.later b1 hT.pos
  have r1 := hr.later b1
  clear hr hT
  go_wp2_with fail
  have HTX := text_all s w1 (by omega)
  have HTR := fun W => rtext_any s W hs
  have e1 : textOut s = textBytes s := by unfold textOut; rw [if_pos hs]
  have e2 : textErr s = 0 := by unfold textErr; rw [if_pos hs]
  rw [e1, e2] at HTX
  clear e1 e2
  generalize textBytes s = tb at HTX HTR
  refine HTX.mono ?_
  rintro e w2 ⟨a2, c2, rfl, o2, b2⟩
  have z2 := b2.size
  have T2 := T1.later b2 T1.pos
  have r2 := r1.later b2
  have m2 := hm1.later b2
  clear HTX T1 r1 hm1
  go_wp2_with fail
  refine (HTR _).mono ?_
  rintro e w3 ⟨v3, rfl, o3, b3⟩
  obtain ⟨a3, c3, rfl, _, _⟩ := o3.rd
  have z3 := b3.size
  have T3 := T2.later b3 T2.pos
  have r3 := r2.later b3
  have m3 := m2.later b3
  have o23 := o2.later b3
  clear HTR T2 r2 m2 o2
  go_wp2_with fail
  have HR1 := record_all _ _ _ bs w3 T3 (by have := m3.rd; rw [r3.1] at this; exact this)
  have HR2 := fun W (h : Rd W ao n cap bs) => rrecord_all ao n cap bs W h
  generalize recOut bs = rb at HR1 HR2
  generalize recErr bs = re at HR1 HR2
  refine HR1.mono ?_
  rintro e w4 ⟨a4, c4, rfl, o4, b4⟩
  have z4 := b4.size
  have T4 := T3.later b4 T3.pos
  have r4 := r3.later b4
  have m4 := m3.later b4
  have o24 := o23.later b4
  have o34 := o3.later b4
  clear HR1 T3 r3 m3 o23 o3
  go_wp2_with fail
  refine (HR2 _ r4).mono ?_
  rintro e w5 ⟨a5, c5, rfl, o5, b5⟩
  have z5 := b5.size
  have T5 := T4.later b5 T4.pos
  have r5 := r4.later b5
  have m5 := m4.later b5
  have o25 := o24.later b5
  have o35 := o34.later b5
  have o45 := o4.later b5
  have B5 : Below w.heap.size w w5 := (((b1.trans (b2.mono z1)).trans (b3.mono (by omega))).trans (b4.mono (by omega))).trans (b5.mono (by omega))
  clear HR2 T4 r4 m4 o24 o34 o4 b1 b2 b3 b4 b5
  have HN1 := fun W => num_all k W hk0 hk1
  have HN2 := fun W => rnum_all k W hk0 hk1
  generalize numBytes k = kb at HN1 HN2
  have M5 : Hid (Rd w5 (some ⟨g, 0, none⟩) n c bs) := by have := m5.rd; rw [r5.1] at this; exact this
  have H1 : Hid (∀ W, Calls Tryd.prog 14 #[.int .i64 k] W fun e w' => ∃ a c, e = .returned (.slice a kb.length c) ∧ Own w' W.heap.size (.slice a kb.length c) kb ∧ Below W.heap.size W w') := HN1
  have H2 : Hid (∀ W, Calls Tryd.prog 15 #[.int .i64 k] W fun e w' => ∃ a c, e = .returned (.slice a kb.length c) ∧ Own w' W.heap.size (.slice a kb.length c) kb ∧ Below W.heap.size W w') := HN2
  have H3 : Hid (∀ W, Tab W → Rd W (some ⟨g, 0, none⟩) n c bs → Calls Tryd.prog 17 #[.slice (some ⟨g, 0, none⟩) n c] W fun e w' => e = .returned (.int .u64 ((crc bs).toNat : Int)) ∧ W = w') := fun W h1 h2 => sum_any _ _ _ _ W h1 h2
  have H4 : Hid (∀ W, Rd W ao n cap bs → Calls Tryd.prog 18 #[.slice ao n cap] W fun e w' => e = .returned (.int .u64 ((crc bs).toNat : Int)) ∧ W = w') := fun W h => rsum_any _ _ _ _ W h
  generalize crc bs = cr at H3 H4
  clear HN1 HN2 hk0 hk1
  have b50 : Below w5.heap.size w5 w5 := Below.refl _ _
  have b5d : Below w5.heap.size w5 w5.drew := (Below.refl _ _).drew
  have K2 := fun (W : World) (h : Own W w1.heap.size (.slice a2 tb.length c2) tb) => str_own h
  have K3 := fun (W : World) (h : Own W w2.heap.size (.slice a3 tb.length c3) tb) => str_own h
  have K4 := fun (W : World) (h : Own W w3.heap.size (.slice a4 rb.length c4) rb) => str_own h
  have K5 := fun (W : World) (h : Own W w4.heap.size (.slice a5 rb.length c5) rb) => str_own h
  go_wp2_with fail
  go_region_held (fun W => Own W w1.heap.size (.slice a2 tb.length c2) tb ∧ Own W w2.heap.size (.slice a3 tb.length c3) tb ∧ Own W w3.heap.size (.slice a4 rb.length c4) rb ∧ Own W w4.heap.size (.slice a5 rb.length c5) rb)
    (first | assumption | exact ⟨o25.later (by assumption), o35.later (by assumption), o45.later (by assumption), o5.later (by assumption)⟩)
    (first
    | (go_at_call 14; refine (H1.out _).mono ?_; rintro e w6 ⟨a6, c6, rfl, o6, b6⟩; have b6' : Below w5.heap.size w5 w6 := ⟨b6.os, b6.tape, b6.output, b6.size, b6.block⟩; have q66 := str_own o6)
    | (go_at_call 15; refine (H2.out _).mono ?_; rintro e w7 ⟨a7, c7, rfl, o7, b7⟩; have b57 : Below w5.heap.size w5 w7 := b6'.trans (b7.mono b6'.size); have q67 := str_own (o6.later b7); have q77 := str_own o7)
    | (go_at_call 16; refine (num_any _ _).mono ?_; rintro e w' ⟨rfl, rfl⟩)
    | (go_at_call 17; refine (H3.out _ ?_ ?_).mono ?_; exact T5.later b57 T5.pos; exact M5.out.later b57; rintro e w' ⟨rfl, rfl⟩)
    | (go_at_call 18; refine (H4.out _ ?_).mono ?_; exact r5.later b57; rintro e w' ⟨rfl, rfl⟩)
    | (go_at_call 19; refine (stays_any g c n ao cap bs _ ?_ ?_).mono ?_; exact m5.later b57; exact r5.later b57; rintro e w8 ⟨rfl, nq, rfl⟩; have b58 : Below w5.heap.size w5 (w7.drewN nq) := below_drewN b57 nq)
    | (go_at_call 20; refine (knows_any _ ?_).mono ?_; exact (T5.later b57 T5.pos).drewN nq; rintro e w9 ⟨rfl, b9⟩; have b59 : Below w5.heap.size w5 w9 := b58.trans (b9.mono b57.size)))
  all_goals go_wp2
  all_goals go_ret
  all_goals exact ⟨rfl, below_last B5 b57 b9⟩
end Go.Proofs.YtdjilmcpkeckoaaDoor
