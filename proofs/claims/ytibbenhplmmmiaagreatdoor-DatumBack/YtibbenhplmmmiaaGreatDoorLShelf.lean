/-
  The library's contracts laid at this program: strconv.Itoa, strings.Clone; HasSuffix, TrimSuffix, Index and Contains at one point.
-/
import Derived.Test.YtibbenhplmmmiaaGreatDoorDStr
import Derived.Test.YtibbenhplmmmiaaGreatDoorDText2
import Derived.Shelf.Strconv.Itoa3
import Derived.Shelf.Strconv.Clone
import Derived.Ground.NamesProg
import Derived.Shelf.Lay
namespace Go.Proofs.YtibbenhplmmmiaaGreatDoor
open Go.RowKit Go.Shelf

shelf_lay LaysM.n171 Nm 171 at Tryz as Tryz.laysItoa
shelf_lay LaysM.n316 Nm 316 at Tryz as Tryz.laysClone

/-- The library's table of powers of ten. -/
def Ptab (w : World) : Prop := Lib.TabIs Tryz.prog w "internal/strconv.uint64pow10" .u64 Lib.pow10Tab
theorem Ptab.later {w w' : World} (h : Ptab w) (hb : Below w.heap.size w w') : Ptab w' := by
  unfold Ptab Lib.TabIs World.var? at *
  cases hg : Tryz.prog.globalNamed "internal/strconv.uint64pow10" with
  | none => rw [hg] at h; cases h
  | some g =>
    rw [hg] at h
    simp only [Option.bind_some] at h ⊢
    have hlt : g < w.heap.size := by
      rcases Nat.lt_or_ge g w.heap.size with h' | h'
      · exact h'
      · rw [Array.getElem?_eq_none h'] at h; cases h
    rw [hb.block g hlt]
    exact h

theorem dec_digs (u : Nat) : Lib.decDigits u = digs u := by
  induction u using Nat.strongRecOn with
  | ind u ih =>
    by_cases h : u < 10
    · rw [Lib.decDigits, dif_pos h, digs_small u h]
    · rw [Lib.decDigits, dif_neg h, digs_big u h, ih (u / 10) (by omega)]
theorem itoa_text (n : Int) : Lib.itoa n = dtext n 0 := by
  unfold Lib.itoa dtext
  have e : pad 0 (digs n.natAbs) = digs n.natAbs := by
    refine pad_done 0 _ ?_
    by_cases h : n.natAbs < 10
    · rw [digs_small _ h]; simp
    · rw [digs_big _ h]; simp
  rw [if_pos rfl, e]
  split
  · rw [dec_digs]; rfl
  · rw [dec_digs, show n.toNat = n.natAbs by omega]; rfl

theorem grow_more (l : List Obj) : ∀ (w : World), Sort.grow w l.toArray = more w l := by
  induction l with
  | nil => intro w; simp [Sort.grow, more]
  | cons o l ih =>
    intro w
    rw [more, ← ih]
    unfold Sort.grow World.alloc
    simp
theorem itoa_any (n : Int) (w : World) (h0 : -9223372036854775808 ≤ n) (h1 : n ≤ 9223372036854775807) (hP : Ptab w) : Calls Tryz.prog 35 #[.int .i64 n] w fun e w' => e = .returned (.string ⟨(dtext n 0).toArray⟩) ∧ Grew w w' := by
  rw [← itoa_text]
  refine (Any.strconv_Itoa Tryz.laysItoa n h0 h1 w hP).mono ?_
  rintro e w' ⟨rfl, k, os, rfl⟩
  refine ⟨rfl, os.toList, k, ?_⟩
  have h := grow_more os.toList (w.drewN k)
  rw [Array.toArray_toList] at h
  rw [h, more_drewN]

theorem suffix_one (l : List UInt8) (w : World) (hl : l.length ≤ 9223372036854775806) : Calls Tryz.prog 267 #[.string ⟨l.toArray⟩, .string ⟨#[46]⟩] w fun e w' => e = .returned (.bool (decide (l.getLast? = some 46))) ∧ w = w' := by
  rcases List.eq_nil_or_concat l with rfl | ⟨m, c, rfl⟩
  · go_enter Tryz.func267, Tryz.ntmps267
    go_wp2
    go_ret
    exact ⟨rfl, rfl⟩
  · have hs : (ByteArray.mk (m ++ [c]).toArray).size = m.length + 1 := by show (m ++ [c]).length = _; simp
    have e : decide ((m ++ [c]).getLast? = some 46) = decide (c = 46) := by simp
    rw [List.concat_eq_append, e]
    have hx : (((ByteArray.mk (m ++ [c]).toArray).extract m.length (m.length + 1)).toList == [46]) = decide (c = 46) := by
      rw [ba_extract, ByteArray.toList_eq]
      show (((m ++ [c]).take (m.length + 1)).drop m.length == [46]) = _
      rw [List.take_of_length_le (by simp), List.drop_left' rfl]
      by_cases h : c = 46 <;> simp [h]
    have h1 : ((m.length + 1 : Nat) : Int) = (m.length : Int) + 1 := by omega
    have h2 : (1 : Int) ≤ (m.length : Int) + 1 := by omega
    have h3 : m.length ≤ 9223372036854775805 := by simp at hl; omega
    generalize decide (c = 46) = b at *
    generalize ByteArray.mk (m ++ [c]).toArray = B at *
    generalize m.length = n at *
    clear e hl
    go_enter Tryz.func267, Tryz.ntmps267
    go_wp2
    go_ret
    exact ⟨rfl, rfl⟩

end Go.Proofs.YtibbenhplmmmiaaGreatDoor
