/-
  The contracts of codec.fold, codec.unfold, codec.appendNumber, codec.Number: what each call gives, for every number.
-/
import Derived.Test.YtonjjbmjholkjaaGreatDoorProg
import Derived.Test.YtonjjbmjholkjaaGreatDoorPlain
import Derived.WalkKit
import Derived.WalkSpells
import Derived.WalkLawsBesides
namespace Go.Proofs.YtonjjbmjholkjaaGreatDoor
open Go.RowKit

theorem Tryz.info5 : (Tryz.prog.info? 5).map (fun i => (i.zero, i.size, i.bytes)) = some (some (.int .u8 0), 1, 1) := by kernel_rfl

set_option maxHeartbeats 400000 in
theorem fold_any (n : Int) (w : World) (h0 : -9223372036854775808 ≤ n) (h1 : n ≤ 9223372036854775807) :
    Calls Tryz.prog 77 #[.int .i64 n] w fun e w' => e = .returned (.int .u64 (foldN n : Int)) ∧ w = w' := by
  go_enter Tryz.func77, Tryz.ntmps77
  go_wp2
  all_goals go_ret
  · exact ⟨ret_int (fold_neg n h0 (by assumption)), rfl⟩
  · exact ⟨ret_int (fold_pos n (by assumption) h1), rfl⟩

set_option maxHeartbeats 400000 in
theorem unfold_any (u : Nat) (w : World) (h1 : u < 18446744073709551616) :
    Calls Tryz.prog 97 #[.int .u64 (u : Int)] w fun e w' => e = .returned (.int .i64 (unfoldN u)) ∧ w = w' := by
  have hand : bits BinOp.and IntKind.u64 (u : Int) 1 = ((u % 2 : Nat) : Int) := by
    rw [show (1 : Int) = ((1 : Nat) : Int) from rfl, u64_and_nat _ _ h1 (by decide), nat_mask1]
  by_cases hp : u % 2 = 1
  · have hb : (bits BinOp.and IntKind.u64 (u : Int) 1 == 1) = true := by rw [hand, hp]; rfl
    clear hand
    go_enter Tryz.func97, Tryz.ntmps97
    go_wp2
    all_goals go_ret
    all_goals exact ⟨ret_int (unfold_odd u h1 hp), rfl⟩
  · have hb : (bits BinOp.and IntKind.u64 (u : Int) 1 == 1) = false := by rw [hand]; simp; omega
    clear hand
    go_enter Tryz.func97, Tryz.ntmps97
    go_wp2
    go_ret
    exact ⟨ret_int (unfold_even u hp), rfl⟩

theorem own_of {w : World} {base n : Nat} {v : Value} {bs : List UInt8} (h : w.ownsRow base 5 1 v n (bv bs)) : Own w base v bs := by
  have e : n = bs.length := by have := h.1; rw [bv_length] at this; omega
  unfold Own
  rw [← e]
  exact h
theorem own_push {w : World} {base n : Nat} {v : Value} {bs : List UInt8} {b : UInt8} (h : w.ownsRow base 5 1 v n (bv bs ++ [Value.int .u8 (b.toNat : Int)])) : Own w base v (bs ++ [b]) :=
  own_of (bs := bs ++ [b]) (by rw [bv_append]; exact h)
theorem one_cell (k : IntKind) (n : Int) : ∀ u ∈ [Value.int k n], u.oneCell' = true := by
  intro u hu
  simp at hu
  subst hu
  rfl

set_option maxHeartbeats 400000 in
theorem appendNumber_any (v : Value) (bs : List UInt8) (n : Int) (base : Nat) (w : World) (hown : Own w base v bs) (hb : base ≤ w.heap.size) (hl : bs.length ≤ 70368744177664)
    (h0 : -9223372036854775808 ≤ n) (h1 : n ≤ 9223372036854775807) :
    Calls Tryz.prog 48 #[v, .int .i64 n] w fun e w' => ∃ v', e = .returned v' ∧ Own w' base v' (bs ++ numBytes n) ∧ Below base w w' := by
  obtain ⟨i0, hi, hz0, hz1, hz2⟩ := info_parts Tryz.info5
  have hlt := foldN_lt n h0 h1
  go_enter Tryz.func48, Tryz.ntmps48
  go_wp2_with (go_at_call 77; refine (fold_any _ _ h0 h1).mono ?_; rintro e w' ⟨rfl, rfl⟩)
  go_loopw [0, 5] (fun vr r wr => ∃ (u f : Nat) (dn : List UInt8), r = .int .u64 (u : Int) ∧ u < 18446744073709551616 ∧ u < 128 ^ (f + 1) ∧ dn.length + f = 9 ∧ dn ++ nb f u = nb 9 (foldN n) ∧ Own wr base vr (bs ++ dn) ∧ Below base w wr)
    (fun _ r _ => (intOf r).toNat)
  case atStart => exact ⟨foldN n, 9, [], rfl, hlt, Nat.lt_trans hlt (by decide), rfl, rfl, by simpa using hown, Below.refl _ _⟩
  case round =>
    obtain ⟨u, f, dn, rfl, hu, hf, hdn, heq, ho, hbl⟩ := hrel
    have hsz := hbl.size
    have hll : (bs ++ dn).length ≤ 70368744177673 := by simp; omega
    by_cases hc : u < 128
    · have hc' : ¬ (127 : Int) < (u : Int) := by omega
      go_wp2_with (at_builtin; refine wpList_append_own _ rfl _ _ 22 rfl base 5 i0 (.int .u8 0) 1 1 Tryz.underlying22 hi hz0 hz1 hz2 rfl (by decide) _ _ _ rfl (World.ownsRow.alloc ho _) ⟨wr.heap.size, 0, none⟩ 1 1 [.int .u8 (u : Int)] rfl rfl (cell_one_new _ _ _) (one_cell _ _) (by unfold maxLen; omega) (by omega) (by simp; omega) ?_)
      intro v' w1 hown' hgrow _
      have hB : Below base w w1 := ((hbl.alloc (by omega) _).grown hgrow (by simp; omega) (fun k hk => (World.ownsRow.lt ho k hk).1))
      rw [byte_small' u hc] at hown'
      have hO := own_push hown'
      clear hown' hgrow ho hbl
      go_wp2
      go_ret
      rw [nb_small f u hc] at heq
      rw [List.append_assoc, heq] at hO
      exact ⟨_, rfl, hO, hB⟩
    · have hc' : (127 : Int) < (u : Int) := by omega
      go_wp2_with (at_builtin; refine wpList_append_own _ rfl _ _ 22 rfl base 5 i0 (.int .u8 0) 1 1 Tryz.underlying22 hi hz0 hz1 hz2 rfl (by decide) _ _ _ rfl (World.ownsRow.alloc ho _) ⟨wr.heap.size, 0, none⟩ 1 1 [.int .u8 (bits .or .u8 (IntKind.u8.wrap (u : Int)) 128)] rfl rfl (cell_one_new _ _ _) (one_cell _ _) (by unfold maxLen; omega) (by omega) (by simp; omega) ?_)
      intro v' w1 hown' hgrow _
      have hB : Below base w w1 := ((hbl.alloc (by omega) _).grown hgrow (by simp; omega) (fun k hk => (World.ownsRow.lt ho k hk).1))
      rw [or128 u] at hown'
      have hO := own_push hown'
      clear hown' hgrow ho hbl
      go_wp2
      go_roundw
      case rel =>
        obtain ⟨f, rfl⟩ : ∃ g, f = g + 1 := by
          cases f with
          | zero => simp at hf; omega
          | succ g => exact ⟨g, rfl⟩
        rw [nb_big _ _ hc] at heq
        refine ⟨u / 128, f, dn ++ [UInt8.ofNat (u % 128 + 128)], by go_num, by omega, ?_, by simp; omega, by simpa using heq, by simpa using hO, hB⟩
        rw [Nat.div_lt_iff_lt_mul (by decide)]
        simpa [Nat.pow_succ] using hf
      case measure => simp [intOf]; omega

theorem own_made {base : Nat} (w : World) (cur : Array Value) (cap : Nat) (hb : base ≤ w.heap.size) (hm : cap ≤ maxLen) (hs : cur.size = cap) :
    Own (w.alloc (.cells cur 5)) base (.slice (some ⟨w.heap.size, 0, none⟩) 0 cap) [] :=
  World.ownsRow_made w cur cap hb hm (by omega)

end Go.Proofs.YtonjjbmjholkjaaGreatDoor
