/-
  The law's block: 512 bytes, mostly.
-/
import Derived.Test.YtecgjfghofpjcaaDkJ
import Derived.Laws.CopyOwn
import Derived.Laws.MakeOwn
namespace Go.Proofs.Ytecgjfghofpjcaa
open Go.RowKit Go.Maps

/-- copy(x[o:], p). -/
def cpy (x : List UInt8) (o : Nat) (p : List UInt8) : List UInt8 := x.take o ++ p.take (x.length - o) ++ x.drop (o + min p.length (x.length - o))
def blk (p : List UInt8) : List UInt8 := cpy (cpy z512 0 p) 300 p
theorem cpy_len (x : List UInt8) (o : Nat) (p : List UInt8) (ho : o ≤ x.length) : (cpy x o p).length = x.length := by
  unfold cpy
  simp
  omega
theorem blk_len (p : List UInt8) : (blk p).length = 512 := by
  unfold blk
  rw [cpy_len _ _ _ (by rw [cpy_len _ _ _ (Nat.zero_le _), z512_len]; omega), cpy_len _ _ _ (Nat.zero_le _), z512_len]
/-- copy onto bytes of one's own, from whatever. -/
theorem copy_bytes (W : World) (g : Nat) (x : List UInt8) (t : TypeId) (hg : W.heap[g]? = some (.cells (bv x).toArray t (0, 0))) (o dCap : Nat) (ho : o ≤ x.length) (ao : Option Addr) (n cap : Nat) (p : List UInt8) (hr : Rd W ao n cap p) :
    ∃ W', (∀ ty, (Builtin.copy_ #[32, 32] ty #[.slice (some ⟨g, o, none⟩) (x.length - o) dCap, .slice ao n cap]).run Try.prog W = .ok (goInt (Nat.min n (x.length - o))) W') ∧ W'.heap[g]? = some (.cells (bv (cpy x o p)).toArray t (0, 0)) ∧ Chg (fun k => k = g) W W' := by
  have hs : (Try.prog.info? 5).map (·.size) = some 1 := by kernel_rfl
  have hu := Try.underlying32
  have hpl := hr.1
  by_cases h0 : Nat.min n (x.length - o) = 0
  · refine ⟨W, fun ty => by rw [h0]; exact run_copy_none W _ _ ty _ _ _ _ _ _ _ hu hs h0, ?_, Chg.refl _ _⟩
    have e : cpy x o p = x := by
      unfold cpy
      have e1 : p.take (x.length - o) = [] := by
        apply List.eq_nil_of_length_eq_zero
        rw [List.length_take, hpl]
        have : min (x.length - o) n = Nat.min n (x.length - o) := Nat.min_comm _ _
        omega
      have e2 : min p.length (x.length - o) = 0 := by rw [hpl]; exact h0
      rw [e1, e2, List.append_nil, Nat.add_zero, List.take_append_drop]
    rw [e]
    exact hg
  · have hmn : Nat.min n (x.length - o) = min n (x.length - o) := rfl
    obtain ⟨b, off, rfl, hc⟩ := hr.2.2.2.2 (by rw [hmn] at h0; omega)
    have hl : (bv (p.take (x.length - o))).length = Nat.min n (x.length - o) := by rw [bv_length, List.length_take, hpl, hmn]; omega
    have hrun := fun ty => run_copy_row (P := Try.prog) W 32 32 ty 5 g o (x.length - o) dCap ⟨b, off, none⟩ n cap (bv x).toArray t (bv (p.take (x.length - o))) hu hs hg hl (fun j v hv => by
      have hj : j < (p.take (x.length - o)).length := by rcases Nat.lt_or_ge j (bv (p.take (x.length - o))).length with q | q; · rwa [bv_length] at q
                                                         · rw [List.getElem?_eq_none q] at hv; cases hv
      rw [bv_at _ j hj] at hv
      cases hv
      rw [Addr.add_lit, List.getElem_take]
      exact hc j (by simp at hj; omega)) (by rw [hl, hmn]; simp [bv_length]; omega) (bv_cell _)
    have e3 : (bv (p.take (x.length - o))).length = min p.length (x.length - o) := by rw [hl, hpl, hmn]
    have E : ((bv x).toArray.toList.take o ++ bv (p.take (x.length - o)) ++ (bv x).toArray.toList.drop (o + (bv (p.take (x.length - o))).length)).toArray = (bv (cpy x o p)).toArray := by
      rw [e3, List.toList_toArray]
      unfold cpy
      rw [bv_append, bv_append]
      unfold bv
      simp only [List.map_take, List.map_drop]
    refine ⟨W.setRow g (bv (cpy x o p)).toArray, fun ty => ?_, setRow_heap W g _ _ t _ hg, ⟨rfl, rfl, rfl, by simp, fun k _ hk => setRow_other W g k _ hk⟩⟩
    rw [hrun ty, E, hl]

set_option maxRecDepth 20000 in
set_option maxHeartbeats 2000000 in
/-- block of an op: the op's own bytes where it is torn, else 512 new ones. -/
theorem block_torn (kd n : Int) (ao : Option Addr) (m cap : Nat) (f : Value) (w : World) :
    Calls Try.prog 24 #[.agg #[.int .i64 kd, .int .i64 n, .slice ao m cap, .bool true, f]] w fun e w' => e = .returned (.slice ao m cap) ∧ Below w.heap.size w w' := by
  go_enter Try.func24, Try.ntmps24
  go_wp2
  go_ret
  exact ⟨rfl, (Below.refl _ _).alloc (Nat.le_refl _) _⟩
set_option maxRecDepth 20000 in
set_option maxHeartbeats 2000000 in
theorem block_new (kd n : Int) (ao : Option Addr) (m cap : Nat) (f : Value) (p : List UInt8) (w : World) (hr : Rd w ao m cap p) :
    Calls Try.prog 24 #[.agg #[.int .i64 kd, .int .i64 n, .slice ao m cap, .bool false, f]] w fun e w' => ∃ g, e = .returned (.slice (some ⟨g, 0, none⟩) 512 512) ∧ Rd w' (some ⟨g, 0, none⟩) 512 512 (blk p) ∧ Below w.heap.size w w' ∧ w.heap.size ≤ g := by
  obtain ⟨i0, hi, hz0, hz1, hz2⟩ := info_parts (show (Try.prog.info? 5).map (fun i => (i.zero, i.size, i.bytes)) = some (some (.int .u8 0), 1, 1) by kernel_rfl)
  obtain ⟨W0, hW0⟩ : ∃ W0, W0 = w.alloc (.cells #[.int .i64 kd, .int .i64 n, .slice ao m cap, .bool false, f] 35) := ⟨_, rfl⟩
  have b0 : Below w.heap.size w W0 := by rw [hW0]; exact (Below.refl _ _).alloc (Nat.le_refl _) _
  have hN0 : W0.heap[w.heap.size]? = some (.cells #[.int .i64 kd, .int .i64 n, .slice ao m cap, .bool false, f] 35 (0, 0)) := by rw [hW0]; exact heap_alloc_new w _
  have hmk : (Instr.makeSlice 32 (.int .i64 512) (.int .i64 512)).run Try.prog W0 = .ok (.slice (some ⟨W0.heap.size, 0, none⟩) 512 512) (W0.alloc (.cells (bv z512).toArray 5)) := by
    have h := run_make (P := Try.prog) W0 32 5 i0 _ Try.underlying32 hi hz0 .i64 .i64 512 512 (by omega) (by omega) (by rw [hz2]; omega) (by omega)
    have e : madeCells (Value.int .u8 0).cells ((512 : Int).toNat * i0.size) = (bv z512).toArray := by
      rw [hz1, bv_z512]
      apply Array.ext
      · rw [size_madeCells]; rfl
      · intro j h1 h2
        rw [size_madeCells] at h1
        simp [madeCells, Value.cells, Nat.mod_one]
    rw [e] at h
    exact h
  obtain ⟨W1, hW1⟩ : ∃ W1, W1 = W0.alloc (.cells (bv z512).toArray 5) := ⟨_, rfl⟩
  have b1 : Below W0.heap.size W0 W1 := by rw [hW1]; exact (Below.refl _ _).alloc (Nat.le_refl _) _
  have hN1 : W1.heap[W0.heap.size]? = some (.cells (bv z512).toArray 5 (0, 0)) := by rw [hW1]; exact heap_alloc_new W0 _
  rw [← hW1] at hmk
  have hr1 : Rd W1 ao m cap p := (hr.later b0).later b1
  obtain ⟨W2, hcp2, hN2, hC2⟩ := copy_bytes W1 W0.heap.size z512 5 hN1 0 512 (Nat.zero_le _) ao m cap p hr1
  have hlt : W0.heap.size < W1.heap.size := bl_lt hN1
  have b2 : Below W0.heap.size W1 W2 := hC2.below (by omega) (fun k e => by omega)
  have hr2 : Rd W2 ao m cap p := (hr.later b0).later (b1.trans b2)
  have hr2d : Rd W2.drew ao m cap p := hr2
  have hl2 : (cpy z512 0 p).length = 512 := by rw [cpy_len _ _ _ (Nat.zero_le _), z512_len]
  obtain ⟨W3, hcp3, hN3, hC3⟩ := copy_bytes W2.drew W0.heap.size (cpy z512 0 p) 5 hN2 300 212 (by rw [hl2]; omega) ao m cap p hr2d
  have b3d : Below W0.heap.size W2.drew W3 := hC3.below (show W0.heap.size ≤ W2.heap.size by have := hC2.size; omega) (fun k e => by omega)
  have b3 : Below W0.heap.size W2 W3 := ⟨b3d.os, b3d.tape, b3d.output, b3d.size, b3d.block⟩
  have sw : w.heap.size < W0.heap.size := bl_lt hN0
  have k0 : W1.cell? ⟨w.heap.size, 2, none⟩ = some (.slice ao m cap) := (b1.cell (p := ⟨w.heap.size, 2, none⟩) sw).trans (bl_cell hN0 2 _ rfl)
  have k2 : W2.cell? ⟨w.heap.size, 2, none⟩ = some (.slice ao m cap) := (b2.cell (p := ⟨w.heap.size, 2, none⟩) sw).trans k0
  have k3 : W3.cell? ⟨w.heap.size, 2, none⟩ = some (.slice ao m cap) := (b3.cell (p := ⟨w.heap.size, 2, none⟩) sw).trans k2
  rw [z512_len] at hcp2
  rw [hl2] at hcp3
  simp only [Nat.sub_zero, Nat.reduceSub] at hcp2 hcp3
  have FIN : Hid (Rd W3 (some ⟨W0.heap.size, 0, none⟩) 512 512 (blk p) ∧ Below w.heap.size w W3 ∧ w.heap.size ≤ W0.heap.size) := by
    refine ⟨⟨blk_len p, Nat.le_refl _, by decide, (fun e => by cases e), fun _ => ⟨_, 0, rfl, fun i hi => ?_⟩⟩, b0.trans (((b1.trans b2).trans b3).mono b0.size), b0.size⟩
    exact bl_cell hN3 (0 + i) _ (by rw [Nat.zero_add]; simpa [blk] using bv_at (blk p) i hi)
  clear hi hz0 hz1 hz2 hN0 hN1 hN2 hN3 hC2 hC3 b0 b1 b2 b3 hr hr1 hr2 hr2d b3d hl2 hlt hW1
  go_enter Try.func24, Try.ntmps24
  go_upto_region 3 with fail
  rw [← hW0]
  clear hW0
  go_wp2
  go_region_held2 (fun W => W.cell? ⟨w.heap.size, 2, none⟩ = some (.slice ao m cap)) (first | exact k2 | exact k3) (fail)
  all_goals
    go_wp2
    go_ret
    exact ⟨_, rfl, FIN.out.1, FIN.out.2.1, FIN.out.2.2⟩
end Go.Proofs.Ytecgjfghofpjcaa
