/-
  The program's Print of a decimal that is not right: the empty text.
  The library's contracts laid at this program: strconv.Itoa, strings.Clone; HasSuffix, TrimSuffix, Index and Contains at one point.
  The contracts of datum.Print and of what it calls, of datum.told and datum.toldNumber: values that a literal can be.
-/
import Derived.Test.YtoadhfcjegfanaaGreatDoorMdDArith
import Derived.Test.YtoadhfcjegfanaaGreatDoorMkDText4
import Derived.Test.YtoadhfcjegfanaaGreatDoorMiDStr
import Derived.Test.YtoadhfcjegfanaaGreatDoorMjDText2
import Derived.Shelf.Strconv.Itoa3
import Derived.Shelf.Strconv.Clone
import Derived.Ground.NamesProg
import Derived.Shelf.Lay
import Derived.Test.YtoadhfcjegfanaaGreatDoorMfPlain
import Derived.Test.YtoadhfcjegfanaaGreatDoorVQuote
import Derived.Test.YtoadhfcjegfanaaGreatDoorDParse
import Derived.Test.YtoadhfcjegfanaaGreatDoorDText5
namespace Go.Proofs.YtoadhfcjegfanaaGreatDoor
open Go.RowKit

set_option maxRecDepth 20000 in
set_option maxHeartbeats 2000000 in
theorem print_bad (u s : Int) (w : World) (hs : rightS s = false) : Calls Tryz.prog 110 #[dv u s] w fun e w' => e = .returned (.string ⟨#[]⟩) ∧ Grew w w' := by
  have R := fun W => right_any u s W
  rw [hs] at R
  go_enter Tryz.func110, Tryz.ntmps110
  go_wp2
  refine wp_scope_passes 0 1 rfl ?_
  go_wp2_with (go_at_call 131; refine (R _).mono ?_; rintro e w' ⟨rfl, os, n, rfl⟩)
  simp only [Exit.jump]
  go_ret
  refine ⟨rfl, ?_⟩
  repeat (first | exact Grew.refl _ | apply Grew.drew | apply Grew.drewN | apply Grew.alloc | apply Grew.more)
end Go.Proofs.YtoadhfcjegfanaaGreatDoor

namespace Go.Proofs.YtoadhfcjegfanaaGreatDoor
open Go.RowKit Go.Shelf

shelf_lay LaysM.n171 Nm 171 at Tryz as Tryz.laysItoa
shelf_lay LaysM.n316 Nm 316 at Tryz as Tryz.laysClone

/-- The library's table of powers of ten. -/
def Ptab (w : World) : Prop := Lib.TabIs Tryz.prog w "internal/strconv.uint64pow10" .u64 Lib.pow10Tab
theorem Ptab.later {w w' : World} (h : Ptab w) (hb : Below w.heap.size w w') : Ptab w' := by
  unfold Ptab Lib.TabIs World.var? at *
  cases hg : Tryz.prog.globalNamed "internal/strconv.uint64pow10" with
  | none => rw [hg] at h; cases h
  | some g =>
    rw [hg] at h
    simp only [Option.bind_some] at h ⊢
    have hlt : g < w.heap.size := by
      rcases Nat.lt_or_ge g w.heap.size with h' | h'
      · exact h'
      · rw [Array.getElem?_eq_none h'] at h; cases h
    rw [hb.block g hlt]
    exact h

theorem dec_digs (u : Nat) : Lib.decDigits u = digs u := by
  induction u using Nat.strongRecOn with
  | ind u ih =>
    by_cases h : u < 10
    · rw [Lib.decDigits, dif_pos h, digs_small u h]
    · rw [Lib.decDigits, dif_neg h, digs_big u h, ih (u / 10) (by omega)]
theorem itoa_text (n : Int) : Lib.itoa n = dtext n 0 := by
  unfold Lib.itoa dtext
  have e : pad 0 (digs n.natAbs) = digs n.natAbs := by
    refine pad_done 0 _ ?_
    by_cases h : n.natAbs < 10
    · rw [digs_small _ h]; simp
    · rw [digs_big _ h]; simp
  rw [if_pos rfl, e]
  split
  · rw [dec_digs]; rfl
  · rw [dec_digs, show n.toNat = n.natAbs by omega]; rfl

theorem grow_more (l : List Obj) : ∀ (w : World), Sort.grow w l.toArray = more w l := by
  induction l with
  | nil => intro w; simp [Sort.grow, more]
  | cons o l ih =>
    intro w
    rw [more, ← ih]
    unfold Sort.grow World.alloc
    simp
theorem itoa_any (n : Int) (w : World) (h0 : -9223372036854775808 ≤ n) (h1 : n ≤ 9223372036854775807) (hP : Ptab w) : Calls Tryz.prog 82 #[.int .i64 n] w fun e w' => e = .returned (.string ⟨(dtext n 0).toArray⟩) ∧ Grew w w' := by
  rw [← itoa_text]
  refine (Any.strconv_Itoa Tryz.laysItoa n h0 h1 w hP).mono ?_
  rintro e w' ⟨rfl, k, os, rfl⟩
  refine ⟨rfl, os.toList, k, ?_⟩
  have h := grow_more os.toList (w.drewN k)
  rw [Array.toArray_toList] at h
  rw [h, more_drewN]

theorem clone_any (B : ByteArray) (w : World) (h : B.size ≤ 140737488351232) : Calls Tryz.prog 47 #[.string B] w fun e w' => e = .returned (.string B) ∧ Below w.heap.size w w' := by
  have C : ∀ W, Calls Tryz.prog 61 #[.string B] W fun e w' => e = .returned (.string B) ∧ Below W.heap.size W w' := fun W => Any.stringslite_Clone Tryz.laysClone B W (by omega)
  go_enter Tryz.func47, Tryz.ntmps47
  go_wp2_with (go_at_call 61; refine (C _).mono ?_; rintro e w' ⟨rfl, hb⟩)
  go_ret
  exact ⟨rfl, hb⟩

theorem suffix_one (l : List UInt8) (w : World) (hl : l.length ≤ 9223372036854775806) : Calls Tryz.prog 177 #[.string ⟨l.toArray⟩, .string ⟨#[46]⟩] w fun e w' => e = .returned (.bool (decide (l.getLast? = some 46))) ∧ w = w' := by
  rcases List.eq_nil_or_concat l with rfl | ⟨m, c, rfl⟩
  · go_enter Tryz.func177, Tryz.ntmps177
    go_wp2
    go_ret
    exact ⟨rfl, rfl⟩
  · have hs : (ByteArray.mk (m ++ [c]).toArray).size = m.length + 1 := by show (m ++ [c]).length = _; simp
    have e : decide ((m ++ [c]).getLast? = some 46) = decide (c = 46) := by simp
    rw [List.concat_eq_append, e]
    have hx : (((ByteArray.mk (m ++ [c]).toArray).extract m.length (m.length + 1)).toList == [46]) = decide (c = 46) := by
      rw [ba_extract, ByteArray.toList_eq]
      show (((m ++ [c]).take (m.length + 1)).drop m.length == [46]) = _
      rw [List.take_of_length_le (by simp), List.drop_left' rfl]
      by_cases h : c = 46 <;> simp [h]
    have h1 : ((m.length + 1 : Nat) : Int) = (m.length : Int) + 1 := by omega
    have h2 : (1 : Int) ≤ (m.length : Int) + 1 := by omega
    have h3 : m.length ≤ 9223372036854775805 := by simp at hl; omega
    generalize decide (c = 46) = b at *
    generalize ByteArray.mk (m ++ [c]).toArray = B at *
    generalize m.length = n at *
    clear e hl
    go_enter Tryz.func177, Tryz.ntmps177
    go_wp2
    go_ret
    exact ⟨rfl, rfl⟩

end Go.Proofs.YtoadhfcjegfanaaGreatDoor

namespace Go.Proofs.YtoadhfcjegfanaaGreatDoor
open Go.RowKit Go.Shelf
attribute [local go_sem] cell?_more frozen?_more setCell_more more_lt more_more more_drew more_drewN setCell_drewN alloc_drewN

/-- A value lies in a block of its own. -/
def Box (w : World) (p : Nat) (v : Va) : Prop := w.heap[p]? = some (.cells #[.int .i64 v.k, .int .i64 v.n, .int .i64 v.m, .string ⟨v.b.toArray⟩] 27 (0, 0))
theorem Box.lt {w : World} {p : Nat} {v : Va} (h : Box w p v) : p < w.heap.size := by
  by_cases hp : p < w.heap.size
  · exact hp
  · unfold Box at h
    rw [Array.getElem?_eq_none (by omega)] at h
    cases h
theorem Box.later {w w' : World} {p : Nat} {v : Va} (h : Box w p v) (hb : Below w.heap.size w w') : Box w' p v := by
  unfold Box
  rw [hb.block p h.lt]
  exact h
theorem Box.at4 {w : World} {p : Nat} {v : Va} (h : Box w p v) : At4 w p 0 v :=
  ⟨by rw [cell_of_row w p 0 _ _ (0, 0) h]; rfl, by rw [cell_of_row w p (0 + 1) _ _ (0, 0) h]; rfl, by rw [cell_of_row w p (0 + 2) _ _ (0, 0) h]; rfl, by rw [cell_of_row w p (0 + 3) _ _ (0, 0) h]; rfl⟩
theorem Box.kept {w w' : World} {p base : Nat} {v : Va} {x : Value} {bs : List UInt8} (h : Box w p v) (ho : Own w base x bs) (hg : w.grownBy w' x.ownBlock) : Box w' p v := by
  unfold Box
  rw [hg.block p h.lt ?_]
  · exact h
  · intro e
    obtain ⟨h1, h2⟩ := ho
    rcases h2 with ⟨rfl, _⟩ | ⟨g, cap, cur, rfl, _, hg', _⟩
    · simp [Value.ownBlock] at e
    · simp [Value.ownBlock] at e
      subst e
      unfold Box at h
      rw [hg'] at h
      simp at h
theorem Box.free {w : World} {p : Nat} {v : Va} (h : Box w p v) (j : Nat) : w.frozen? ⟨p, j, none⟩ = false := by
  unfold Box at h
  simp [World.frozen?, h]
theorem Box.new (w : World) (k n m : Int) (b : List UInt8) : Box (w.alloc (.cells #[.int .i64 k, .int .i64 n, .int .i64 m, .string ⟨b.toArray⟩] 27)) w.heap.size ⟨k, n, m, b⟩ := by
  unfold Box
  show (w.heap.push _)[w.heap.size]? = _
  simp

theorem ba_extract1 (c : UInt8) (l : List UInt8) : ((ByteArray.mk (c :: l).toArray).extract 0 1).toList = [c] := by
  have e : (ByteArray.mk (c :: l).toArray).extract 0 1 = ⟨#[c]⟩ := by
    apply ByteArray.ext
    simp [ByteArray.data_extract]
  rw [e, ByteArray.toList_eq]

theorem prefix0_any (s : ByteArray) (p : UInt8) (w : World) (hs : s.size ≤ 9223372036854775806) :
    Calls Tryz.prog 124 #[.string s, .string ⟨#[p]⟩] w fun e w' => e = .returned (.bool (s.data.toList.head? == some p)) ∧ w = w' := by
  obtain ⟨⟨l⟩⟩ := s
  match l, hs with
  | [], _ =>
    go_enter Tryz.func124, Tryz.ntmps124
    go_wp2
    all_goals go_ret
    all_goals exact ⟨rfl, rfl⟩
  | c :: l, hs =>
    have hsz : (ByteArray.mk (c :: l).toArray).size = l.length + 1 := rfl
    have hx : (((ByteArray.mk (c :: l).toArray).extract 0 1).toList == [p]) = (c == p) := by
      rw [ba_extract1]
      simp
    have e : ((ByteArray.mk (c :: l).toArray).data.toList.head? == some p) = (c == p) := by simp
    rw [e]
    have h1 : (1 : Int) ≤ (l.length : Int) + 1 := by omega
    have h2 : 1 ≤ l.length + 1 := by omega
    rw [hsz] at hs
    change (((ByteArray.mk (c :: l).toArray).extract 0 1).toList == [p]) = (c == p) at hx
    generalize ByteArray.mk (c :: l).toArray = B at *
    generalize l.length = n at *
    generalize (c == p) = g at *
    go_enter Tryz.func124, Tryz.ntmps124
    go_wp2
    all_goals go_ret
    all_goals exact ⟨rfl, rfl⟩

theorem prefix_any (s : ByteArray) (p : UInt8) (w : World) (hs : s.size ≤ 9223372036854775806) :
    Calls Tryz.prog 103 #[.string s, .string ⟨#[p]⟩] w fun e w' => e = .returned (.bool (s.data.toList.head? == some p)) ∧ w = w' := by
  have P := fun W => prefix0_any s p W hs
  generalize (s.data.toList.head? == some p) = g at *
  go_enter Tryz.func103, Tryz.ntmps103
  go_wp2_with (go_at_call 124; refine (P _).mono ?_; rintro e w' ⟨rfl, rfl⟩)
  go_ret
  exact ⟨rfl, rfl⟩


/-- A Dec's text: with a point in every case. -/
def dpt (n m : Int) : List UInt8 := dtext n m.toNat ++ (if m = 0 then [46] else [])
/-- The text of an Int, a Dec or a Text. -/
def ptext (v : Va) : List UInt8 := if v.k = 1 then dtext v.n 0 else if v.k = 2 then dpt v.n v.m else quoL v.b

set_option maxHeartbeats 1000000 in
theorem decText_any (k n m : Int) (b : ByteArray) (w : World) (n0 : -9223372036854775808 ≤ n) (n1 : n ≤ 9223372036854775807) (m0 : 0 ≤ m) (m1 : m ≤ 6) :
    Calls Tryz.prog 83 #[va k n m b] w fun e w' => e = .returned (.string ⟨(dpt n m).toArray⟩) ∧ Grew w w' := by
  have U := fun W => units_any k n m b W
  have P : ∀ W, Calls Tryz.prog 110 #[dv n m] W fun e w' => e = .returned (.string ⟨(dtext n m.toNat).toArray⟩) ∧ Grew W w' := fun W => by
    have := print_good n m.toNat W (by omega) n0 n1
    rwa [show ((m.toNat : Nat) : Int) = m by omega] at this
  have hlen : (dtext n m.toNat).length ≤ 9223372036854775806 := by
    have := digs_len 19 n.natAbs (by have : (10 : Nat) ^ (19 + 1) = 100000000000000000000 := by decide
                                     omega)
    have h1 := pad_len m.toNat (digs n.natAbs)
    have h0 := pad_len 0 (digs n.natAbs)
    unfold dtext
    split <;> split <;> simp [List.length_take] <;> omega
  unfold dpt
  generalize dtext n m.toNat = D at *
  by_cases hm : m = 0
  · subst hm
    rw [if_pos rfl]
    have hadd : (ByteArray.mk D.toArray) ++ (ByteArray.mk #[46]) = ⟨(D ++ [46]).toArray⟩ := ba_app D [46]
    have hsz : ¬ 9223372036854775807 < (ByteArray.mk D.toArray).size + 1 := by show ¬ _ < D.length + 1; omega
    have hsz2 : (ByteArray.mk D.toArray).size = D.length := rfl
    clear m0 m1 n0 n1
    generalize ByteArray.mk (D ++ [46]).toArray = R at *
    generalize ByteArray.mk D.toArray = E at *
    go_enter Tryz.func83, Tryz.ntmps83
    go_wp2_with (first
      | (go_at_call 111; refine (U _).mono ?_; rintro e w1 ⟨rfl, os1, k1, rfl⟩)
      | (go_at_call 110; refine (P _).mono ?_; rintro e w2 ⟨rfl, os2, k2, rfl⟩))
    go_ret
    exact ⟨rfl, (by repeat (first | assumption | exact Grew.refl _ | apply Grew.drew | apply Grew.drewN | apply Grew.alloc | apply Grew.more))⟩
  · rw [if_neg hm, List.append_nil]
    have hm' : (m == 0) = false := by simpa using hm
    clear m0 m1 n0 n1 hm hlen
    generalize ByteArray.mk D.toArray = E at *
    go_enter Tryz.func83, Tryz.ntmps83
    go_wp2_with (first
      | (go_at_call 111; refine (U _).mono ?_; rintro e w1 ⟨rfl, os1, k1, rfl⟩)
      | (go_at_call 110; refine (P _).mono ?_; rintro e w2 ⟨rfl, os2, k2, rfl⟩))
    go_ret
    exact ⟨rfl, (by repeat (first | assumption | exact Grew.refl _ | apply Grew.drew | apply Grew.drewN | apply Grew.alloc | apply Grew.more))⟩

/-- What Print answers of an Int, a Dec or a Text. -/
def pv (v : Va) : List UInt8 := if vr v then ptext v else []

set_option maxHeartbeats 2000000 in
theorem vprint_any (v : Va) (w : World) (hT : Tabs w) (hP : Ptab w) (hk : v.k = 1 ∨ v.k = 2 ∨ v.k = 3) (hn : -9223372036854775808 ≤ v.n ∧ v.n ≤ 9223372036854775807) :
    Calls Tryz.prog 62 #[vv v] w fun e w' => e = .returned (.string ⟨(pv v).toArray⟩) ∧ Below w.heap.size w w' := by
  obtain ⟨k, n, m, b⟩ := v
  have R : ∀ W, Grew w W → Calls Tryz.prog 81 #[va k n m ⟨b.toArray⟩] W fun e w' => e = .returned (.bool (vr ⟨k, n, m, b⟩)) ∧ Below W.heap.size W w' := fun W h => vright_any k n m ⟨b.toArray⟩ W (hT.later h.below)
  have B0 := Box.new w k n m b
  have hok := vr_iff ⟨k, n, m, b⟩
  unfold pv
  have hI : ∀ W, Below w.heap.size w W → Calls Tryz.prog 82 #[.int .i64 n] W fun e w' => e = .returned (.string ⟨(dtext n 0).toArray⟩) ∧ Grew W w' := fun W h => itoa_any n W hn.1 hn.2 (hP.later h)
  clear hT hP
  cases hvr : vr ⟨k, n, m, b⟩ with
  | false =>
    rw [hvr] at R
    clear hok hI hk
    rw [if_neg (by simp)]
    go_enter Tryz.func62, Tryz.ntmps62
    go_wp2_with (go_at_call 81; refine (R _ (by repeat (first | assumption | exact Grew.refl _ | apply Grew.drew | apply Grew.drewN | apply Grew.alloc | apply Grew.more))).mono ?_; rintro e w1 ⟨rfl, b1⟩)
    go_ret
    exact ⟨rfl, ((Below.refl _ w).alloc (Nat.le_refl _) _).trans (b1.mono (by simp))⟩
  | true =>
    rw [hvr] at R
    have hok' := hok.1 hvr
    rw [if_pos rfl]
    rcases hk with hk | hk | hk
    · have hk' : k = 1 := hk
      subst hk'
      show Calls _ _ _ _ fun e w' => e = .returned (.string ⟨(dtext n 0).toArray⟩) ∧ _
      clear hok hok' hk hvr
      generalize ByteArray.mk (dtext n 0).toArray = D at *
      go_enter Tryz.func62, Tryz.ntmps62
      go_wp2_with (first
        | (go_at_call 81; refine (R _ (by repeat (first | assumption | exact Grew.refl _ | apply Grew.drew | apply Grew.drewN | apply Grew.alloc | apply Grew.more))).mono ?_; rintro e w1 ⟨rfl, b1⟩; have bb : Below w.heap.size w w1 := ((Below.refl _ w).alloc (Nat.le_refl _) _).trans (b1.mono (by simp)); have bx := B0.later b1; obtain ⟨c0, c1, c2, c3⟩ := bx.at4; clear bx)
        | (go_at_call 82; refine (hI _ (by first | assumption | exact below_trans bb (Grew.below (by repeat (first | assumption | exact Grew.refl _ | apply Grew.drew | apply Grew.drewN | apply Grew.alloc | apply Grew.more))))).mono ?_; rintro e w2 ⟨rfl, os2, k2, rfl⟩))
      go_ret
      exact ⟨rfl, below_trans bb (Grew.below (by repeat (first | assumption | exact Grew.refl _ | apply Grew.drew | apply Grew.drewN | apply Grew.alloc | apply Grew.more)))⟩
    · have hk' : k = 2 := hk
      subst hk'
      have hm : 0 ≤ m ∧ m ≤ 6 := by
        have h := hok'
        unfold vok at h
        simp at h
        omega
      have D : ∀ W, Calls Tryz.prog 83 #[va 2 n m ⟨b.toArray⟩] W fun e w' => e = .returned (.string ⟨(dpt n m).toArray⟩) ∧ Grew W w' := fun W => decText_any 2 n m ⟨b.toArray⟩ W hn.1 hn.2 hm.1 hm.2
      show Calls _ _ _ _ fun e w' => e = .returned (.string ⟨(dpt n m).toArray⟩) ∧ _
      clear hok hok' hk hvr hI hm
      generalize ByteArray.mk (dpt n m).toArray = E at *
      go_enter Tryz.func62, Tryz.ntmps62
      go_wp2_with (first
        | (go_at_call 81; refine (R _ (by repeat (first | assumption | exact Grew.refl _ | apply Grew.drew | apply Grew.drewN | apply Grew.alloc | apply Grew.more))).mono ?_; rintro e w1 ⟨rfl, b1⟩; have bb : Below w.heap.size w w1 := ((Below.refl _ w).alloc (Nat.le_refl _) _).trans (b1.mono (by simp)); have bx := B0.later b1; obtain ⟨c0, c1, c2, c3⟩ := bx.at4; clear bx)
        | (go_at_call 83; refine (D _).mono ?_; rintro e w2 ⟨rfl, os2, k2, rfl⟩))
      go_ret
      exact ⟨rfl, below_trans bb (Grew.below (by repeat (first | assumption | exact Grew.refl _ | apply Grew.drew | apply Grew.drewN | apply Grew.alloc | apply Grew.more)))⟩
    · have hk' : k = 3 := hk
      subst hk'
      have hl : b.length ≤ 256 := by
        have h := hok'
        unfold vok at h
        simp at h
        omega
      have Q : ∀ W, Calls Tryz.prog 84 #[.string ⟨b.toArray⟩] W fun e w' => e = .returned (.string ⟨(quoL b).toArray⟩) ∧ Below W.heap.size W w' := fun W => quoted_any ⟨b.toArray⟩ W (by show b.length ≤ 1000; omega)
      show Calls _ _ _ _ fun e w' => e = .returned (.string ⟨(quoL b).toArray⟩) ∧ _
      clear hok hok' hk hvr hI hl
      generalize ByteArray.mk (quoL b).toArray = E at *
      go_enter Tryz.func62, Tryz.ntmps62
      go_wp2_with (first
        | (go_at_call 81; refine (R _ (by repeat (first | assumption | exact Grew.refl _ | apply Grew.drew | apply Grew.drewN | apply Grew.alloc | apply Grew.more))).mono ?_; rintro e w1 ⟨rfl, b1⟩; have bb : Below w.heap.size w w1 := ((Below.refl _ w).alloc (Nat.le_refl _) _).trans (b1.mono (by simp)); have bx := B0.later b1; obtain ⟨c0, c1, c2, c3⟩ := bx.at4; clear bx)
        | (go_at_call 84; refine (Q _).mono ?_; rintro e w2 ⟨rfl, b2⟩))
      go_ret
      exact ⟨rfl, below_trans bb b2⟩
end Go.Proofs.YtoadhfcjegfanaaGreatDoor
