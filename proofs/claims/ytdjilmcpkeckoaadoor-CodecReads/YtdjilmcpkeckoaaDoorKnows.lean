/-
  The contract of longstoplaw01.knows: whatever lies in memory, it answers true, and nothing that was there has changed.
-/
import Derived.Test.YtdjilmcpkeckoaaDoorRdr3
import Derived.Deep.RegionWith
import Derived.Deep.DrawnRows
namespace Go.Proofs.YtdjilmcpkeckoaaDoor
open Go.RowKit
attribute [local go_sem ↓] Go.wp_at_zero Go.wp_at_succ

theorem num_any (n : Int) (w : World) : Calls Tryd.prog 16 #[.int .i64 n] w fun e w' => e = .returned (.int .i64 n) ∧ w = w' := by
  go_enter Tryd.func16, Tryd.ntmps16
  go_wp2
  go_ret
  exact ⟨rfl, rfl⟩

/-- A slice that reads as bytes, told by its block: what string(..) makes of it, and that it reads so still where the block is as it was. -/
theorem own_block {w : World} {base : Nat} {v : Value} {bs : List UInt8} (h : Own w base v bs) (hne : bs ≠ []) :
    ∃ g cap cur, v = .slice (some ⟨g, 0, none⟩) bs.length cap ∧ base ≤ g ∧ g < w.heap.size ∧ w.heap[g]? = some (.cells cur 5 (0, 0)) ∧
      (∀ W : World, W.heap[g]? = some (.cells cur 5 (0, 0)) → Rd W (some ⟨g, 0, none⟩) bs.length cap bs) := by
  obtain ⟨h1, h2⟩ := h
  rcases h2 with ⟨_, hn⟩ | ⟨g, cap, cur, hv, hb, hg, hrest⟩
  · exact absurd (List.eq_nil_of_length_eq_zero hn) hne
  · refine ⟨g, cap, cur, hv, hb, (Array.getElem?_eq_some_iff.1 hg).1, hg, fun W hW => ?_⟩
    have hO : Own W base v bs := ⟨h1, .inr ⟨g, cap, cur, hv, hb, hW, hrest⟩⟩
    obtain ⟨ao, cap', hv', hr, _⟩ := hO.rd
    rw [hv] at hv'
    cases hv'
    exact hr

theorem number_str (n : Int) (lit : List UInt8) (hl : numBytes n = lit) (w : World) (h0 : -9223372036854775808 ≤ n) (h1 : n ≤ 9223372036854775807) :
    Calls Tryd.prog 14 #[.int .i64 n] w fun e w' => ∃ a c, e = .returned (.slice a lit.length c) ∧ (convert 22 9 (.slice a lit.length c)).run Tryd.prog w' = .ok (.string ⟨lit.toArray⟩) w' ∧ Below w.heap.size w w' := by
  refine (number_any n w h0 h1).mono ?_
  rintro e w' ⟨v, rfl, ho, hb⟩
  rw [hl] at ho
  obtain ⟨a, c, rfl, hr, _⟩ := ho.rd
  exact ⟨a, c, rfl, run_string_of _ _ _ Tryd.underlying22 Tryd.underlying5 Tryd.underlying9 hr, hb⟩

theorem num_m1 : numBytes (-1) = [1] := by decide +kernel
theorem num_64 : numBytes 64 = [128, 1] := by decide +kernel
theorem text_ab : textBytes ⟨#[97, 98]⟩ = [4, 97, 98] := by decide +kernel
theorem rec_nil : recBytes [] = [0, 0, 0, 0, 0, 0, 0, 0, 0] := by decide +kernel
theorem read_ab : (rTxt [4, 97, 98] 0 0).1 = [97, 98] := by decide +kernel

def z9 : Array Value := #[.int .u8 0, .int .u8 0, .int .u8 0, .int .u8 0, .int .u8 0, .int .u8 0, .int .u8 0, .int .u8 0, .int .u8 0]

theorem made_str (W : World) (g : Nat) (h : W.heap[g]? = some (.cells z9 5 (0, 0))) :
    (convert 22 9 (.slice (some ⟨g, 0, none⟩) 9 9)).run Tryd.prog W = .ok (.string ⟨#[0, 0, 0, 0, 0, 0, 0, 0, 0]⟩) W := by
  refine run_string_of (bs := [0, 0, 0, 0, 0, 0, 0, 0, 0]) _ _ _ Tryd.underlying22 Tryd.underlying5 Tryd.underlying9 ⟨rfl, by decide, by decide, (fun h => by cases h), fun _ => ⟨g, 0, rfl, fun i hi => ?_⟩⟩
  rw [cell_of_row W g (0 + i) _ 5 (0, 0) h]
  match i, hi with
  | 0, _ => rfl
  | 1, _ => rfl
  | 2, _ => rfl
  | 3, _ => rfl
  | 4, _ => rfl
  | 5, _ => rfl
  | 6, _ => rfl
  | 7, _ => rfl
  | 8, _ => rfl

theorem knows_chain {w w2 w3 w4 w5 w6 : World} {o : Obj} {p : Nat} (B2 : Below w.heap.size w w2) (b3 : Below w2.heap.size w2.drew w3) (b4 : Below w3.heap.size w3 w4) (b5 : Below (w4.alloc o).heap.size (w4.alloc o) w5)
    (hp : (w4.alloc o).heap.size ≤ p) (g6 : w5.grownBy w6 (some p)) : Below w.heap.size w w6 := by
  have s2 := B2.size
  have s3 : w2.heap.size ≤ w3.heap.size := b3.size
  have s4 := b4.size
  have s5 := b5.size
  have e : (w4.alloc o).heap.size = w4.heap.size + 1 := by simp
  exact ((((B2.drew.trans (b3.mono s2)).trans (b4.mono (by omega))).alloc (by omega) o).trans (b5.mono (by omega))).grown g6 (by omega) (fun k hk => by cases hk; omega)

set_option maxHeartbeats 2000000 in
theorem knows_any (w : World) (hT : Tab w) :
    Calls Tryd.prog 20 #[] w fun e w' => e = .returned (.bool true) ∧ Below w.heap.size w w' := by
  have hmk : ∀ wx : World, (Instr.makeSlice 22 (.int .i64 9) (.int .i64 9)).run Tryd.prog wx = .ok (.slice (some ⟨wx.heap.size, 0, none⟩) 9 9) (wx.alloc (.cells z9 5)) := fun _ => by kernel_rfl
  go_enter Tryd.func20, Tryd.ntmps20
  go_wp2_with fail
  refine (text_fits ⟨#[97, 98]⟩ _ (by decide)).mono ?_
  rintro e w1 ⟨v1, rfl, ho1, b1⟩
  rw [text_ab] at ho1
  obtain ⟨g1, c1, u1, rfl, hg1, lt1, k1, R1⟩ := own_block ho1 (by simp)
  have T1 := hT.later b1 hT.pos
  have z1 := b1.size
  clear ho1
  go_wp2_with fail
  refine (record_fits none 0 0 [] _ T1 (Rd.nil _) (by decide)).mono ?_
  rintro e w2 ⟨v2, rfl, ho2, b2⟩
  rw [rec_nil] at ho2
  obtain ⟨g2, c2, u2, rfl, hg2, lt2, k2, R2⟩ := own_block ho2 (by simp)
  have j2 : w2.heap[g1]? = some (.cells u1 5 (0, 0)) := (b2.block g1 lt1).trans k1
  have z2 := b2.size
  have B2 : Below w.heap.size w w2 := b1.trans (b2.mono z1)
  clear ho2 T1 hT k1 b1 b2
  have hcT := fun (W : World) (h : W.heap[g1]? = some (.cells u1 5 (0, 0))) => run_string_of (P := Tryd.prog) 22 9 5 Tryd.underlying22 Tryd.underlying5 Tryd.underlying9 (R1 W h)
  have hcR := fun (W : World) (h : W.heap[g2]? = some (.cells u2 5 (0, 0))) => run_string_of (P := Tryd.prog) 22 9 5 Tryd.underlying22 Tryd.underlying5 Tryd.underlying9 (R2 W h)
  have hold : ∀ (W : World) (o : Obj) (k : Nat), k < W.heap.size → (W.alloc o).heap[k]? = W.heap[k]? := fun W o k h => Below.heap_alloc W o k h
  have hcM : ∀ W : World, (convert 22 9 (.slice (some ⟨W.heap.size, 0, none⟩) 9 9)).run Tryd.prog (W.alloc (.cells z9 5)) = .ok (.string ⟨#[0, 0, 0, 0, 0, 0, 0, 0, 0]⟩) (W.alloc (.cells z9 5)) := fun W => made_str _ _ (heap_alloc_new W _)
  simp only [List.length_cons, List.length_nil, Nat.zero_add, Nat.reduceAdd] at hcT hcR R1 R2 ⊢
  have HR1 : Hid (∀ W : World, W.heap[g1]? = some (.cells u1 5 (0, 0)) → Rd W (some ⟨g1, 0, none⟩) 3 c1 [4, 97, 98]) := R1
  clear R1 R2
  go_wp2_with fail
  go_region_with (first
    | (go_at_call 16; refine (num_any 0 _).mono ?_; rintro e w' ⟨rfl, rfl⟩)
    | (go_at_call_of 14 (Value.int IntKind.i64 64); refine (number_str 64 [128, 1] num_64 _ (by decide) (by decide)).mono ?_; rintro e w4 ⟨a4, c4, rfl, hcv4, b4⟩; have y4 := (b4.block g1 (by omega)).trans y3; have x4 := (b4.block g2 (by omega)).trans x3; have z4 : w3.heap.size ≤ w4.heap.size := b4.size; have y5 := (hold w4 (.cells z9 5) g1 (by omega)).trans y4; have x5 := hcR _ ((hold w4 (.cells z9 5) g2 (by omega)).trans x4); simp only [List.length_cons, List.length_nil, Nat.zero_add, Nat.reduceAdd] at hcv4 ⊢)
    | (go_at_call 14; refine (number_str (-1) [1] num_m1 _ (by decide) (by decide)).mono ?_; rintro e w3 ⟨a3, c3, rfl, hcv3, b3⟩; have y3 := (b3.block g1 (by simp; omega)).trans j2; have x3 := (b3.block g2 (by simp; omega)).trans k2; have z3 : w2.heap.size ≤ w3.heap.size := b3.size; simp only [List.length_cons, List.length_nil, Nat.zero_add] at hcv3 ⊢)
    | (go_at_call 21; refine (newReader_any _ _ _ [4, 97, 98] _ (HR1.out (w4.alloc (.cells z9 5)) y5) (by decide)).mono ?_; rintro e w5 ⟨p5, rfl, hp5, hr5, b5⟩)
    | (go_at_call 25; refine (rText_any p5 [4, 97, 98] 0 0 _ hr5).mono ?_; rintro e w6 ⟨rfl, _, g6⟩; rw [read_ab]))
  all_goals go_wp2
  all_goals go_ret
  all_goals exact ⟨rfl, knows_chain B2 b3 b4 b5 hp5 g6⟩
end Go.Proofs.YtdjilmcpkeckoaaDoor
