/-
  The contract of the document's answer longstopref01.Unrecord: what the call tells of any bytes.
-/
import Derived.Test.YtonjjbmjholkjaaGreatDoorWsR4
import Derived.Deep.RegionWith
import Derived.Deep.DrawnRows
namespace Go.Proofs.YtonjjbmjholkjaaGreatDoor
open Go.RowKit

theorem eight_is (s : BitVec 64) (l : List UInt8) (h : l.length = 8) : (eight s != l) = (s != join l) := by
  by_cases e : s = join l
  · subst e
    rw [eight_join l h]
    simp
  · have h2 : eight s ≠ l := fun h3 => e (by rw [← h3, join_eight])
    rw [bne_iff_ne.2 h2, bne_iff_ne.2 e]

theorem str_rd {W : World} {a : Option Addr} {n c : Nat} {bs : List UInt8} (h : Rd W a n c bs) : (convert 22 9 (.slice a n c)).run Tryz.prog W = .ok (.string ⟨bs.toArray⟩) W :=
  run_string_of (P := Tryz.prog) 22 9 5 Tryz.underlying22 Tryz.underlying5 Tryz.underlying9 h

set_option maxRecDepth 20000 in
set_option maxHeartbeats 2000000 in
theorem runrecord_any (ao : Option Addr) (n cap : Nat) (bs : List UInt8) (w : World) (h : Rd w ao n cap bs) :
    Calls Tryz.prog 22 #[.slice ao n cap] w fun e w' => ∃ v, e = .returned (.tuple #[v, .int .i64 ((takeR bs).2.1 : Int), .int .i64 ((takeR bs).2.2 : Int)]) ∧ Own w' w.heap.size v (takeR bs).1 ∧ Below w.heap.size w w' := by
  have hcall := rtake_any ao n cap bs w h
  have hsz := takeN_size bs
  have hR : takeR bs = if (takeN bs).2.2 ≠ 0 then ([], 0, (takeN bs).2.2) else if numOf (takeN bs) < 0 ∨ 1048576 < numOf (takeN bs) then ([], 0, 21) else if bs.length - (takeN bs).2.1 < (numOf (takeN bs)).toNat + 8 then ([], 0, 20)
    else if crc ((bs.drop (takeN bs).2.1).take (numOf (takeN bs)).toNat) ≠ join ((bs.drop ((takeN bs).2.1 + (numOf (takeN bs)).toNat)).take 8) then ([], 0, 22)
    else ((bs.drop (takeN bs).2.1).take (numOf (takeN bs)).toNat, (takeN bs).2.1 + (numOf (takeN bs)).toNat + 8, 0) := by
    unfold takeR takeL
    by_cases h1 : (takeN bs).2.2 ≠ 0
    · simp only [h1, if_true, ne_eq, not_false_eq_true]
    · by_cases h2 : numOf (takeN bs) < 0 ∨ 1048576 < numOf (takeN bs)
      · simp [h1, h2]
      · simp only [h1, h2, if_false]
        rw [if_neg (by simp)]
  generalize takeR bs = t at hR
  generalize numOf (takeN bs) = x at hcall hR
  generalize (takeN bs).2.1 = k at hcall hR hsz
  generalize (takeN bs).2.2 = er at hcall hR hsz
  have HC : Hid (Calls Tryz.prog 40 #[.slice ao n cap] w fun e w' => e = .returned (.tuple #[.int .i64 x, .int .i64 (k : Int), .int .i64 (er : Int)]) ∧ w = w') := hcall
  clear hcall
  have hn := h.2.2.1
  have hnc := h.2.1
  have hbl := h.1
  unfold maxLen at hn
  by_cases he : er = 0
  · subst he
    obtain ⟨hk0, hkn⟩ := hsz rfl
    clear hsz
    rw [if_neg (by simp)] at hR
    by_cases hx : x < 0 ∨ 1048576 < x
    · rw [if_pos hx] at hR
      subst hR
      clear h
      by_cases hx0 : x < 0
      · clear hx
        go_enter Tryz.func22, Tryz.ntmps22
        go_wp2_with (go_at_call 40; refine HC.out.mono ?_; rintro e w' ⟨rfl, rfl⟩)
        go_ret3
        exact ⟨_, rfl, World.ownsRow_nil _ _ _ _, Below.refl _ _⟩
      · have hx1 : 1048576 < x := by omega
        clear hx
        go_enter Tryz.func22, Tryz.ntmps22
        go_wp2_with (go_at_call 40; refine HC.out.mono ?_; rintro e w' ⟨rfl, rfl⟩)
        go_ret3
        exact ⟨_, rfl, World.ownsRow_nil _ _ _ _, Below.refl _ _⟩
    · rw [if_neg hx] at hR
      obtain ⟨m, rfl⟩ := Int.eq_ofNat_of_zero_le (show 0 ≤ x by omega)
      have hm1 : m ≤ 1048576 := by omega
      rw [Int.toNat_natCast] at hR
      clear hx
      by_cases hlt : bs.length - k < m + 8
      · rw [if_pos hlt] at hR
        subst hR
        clear h
        have hlt' : (n : Int) - (k : Int) - 8 < (m : Int) := by omega
        go_enter Tryz.func22, Tryz.ntmps22
        go_wp2_with (go_at_call 40; refine HC.out.mono ?_; rintro e w' ⟨rfl, rfl⟩)
        go_ret3
        exact ⟨_, rfl, World.ownsRow_nil _ _ _ _, Below.refl _ _⟩
      · rw [if_neg hlt] at hR
        have hlt' : ¬ (n : Int) - (k : Int) - 8 < (m : Int) := by omega
        obtain ⟨b, off, rfl, _⟩ := h.2.2.2.2 (by omega)
        have hc1 : ¬ cap = k := by omega
        have hc2 : ¬ cap = k + m := by omega
        have q1 := h.cut k m (by omega)
        have q2 := h.cut (k + m) 8 (by omega)
        have hl8 : ((bs.drop (k + m)).take 8).length = 8 := by simp; omega
        have hil := q1.1
        have heq := eight_is (crc ((bs.drop k).take m)) _ hl8
        generalize hin : (bs.drop k).take m = inn at q1 hR hil heq
        generalize hj : (bs.drop (k + m)).take 8 = l8 at q2 hR heq
        have A1 : Below w.heap.size w (w.alloc (.cells #[] 5)) := (Below.refl _ _).alloc (Nat.le_refl _) _
        obtain ⟨i0, hi, hz0, hz1, hz3⟩ := info_parts Tryz.info5
        have hkm : k + m - k = m := by omega
        have hkm8 : k + m + 8 - (k + m) = 8 := by omega
        have hz : (0 : Int) ≤ (k : Int) + (m : Int) := by omega
        have hz2 : (k : Int) + (m : Int) ≤ (n : Int) := by omega
        have hwr : IntKind.i64.wrap ((k : Int) + (m : Int)) = (k : Int) + (m : Int) := by rw [IntKind.wrap_i64]; omega
        have hwr8 : IntKind.i64.wrap ((k : Int) + (m : Int) + 8) = (k : Int) + (m : Int) + 8 := by rw [IntKind.wrap_i64]; omega
        have htn : ((k : Int) + (m : Int)).toNat = k + m := by omega
        have htn8 : ((k : Int) + (m : Int) + 8).toNat = k + m + 8 := by omega
        have HIL : Hid (inn.length = m) := hil
        clear hin hj hl8 h hil
        go_enter Tryz.func22, Tryz.ntmps22
        go_wp2_with (first
          | (go_at_call 40; refine HC.out.mono ?_; rintro e w' ⟨rfl, rfl⟩)
          | (at_builtin; refine wpList_append_from rfl (.tmp 31) (.tmp 37) 22 22 rfl w.heap.size 5 i0 (.int .u8 0) 1 1 Tryz.underlying22 hi hz0 hz1 hz3 rfl _ 0 [] rfl (own_made (base := w.heap.size) w #[] 0 (Nat.le_refl _) (by decide) rfl) _ m (bv inn) (by simp [Act.eval]) (src_of_rd Tryz.underlying22 (q1.later A1)) (by unfold maxLen; omega) (by omega) (by simp) ?_))
        intro v1 w1 ho1 hgrow
        have B1 : Below w.heap.size w w1 := A1.grown hgrow (by simp) (fun k hk => by cases hk; exact Nat.le_refl _)
        have hO1 : Own w1 w.heap.size v1 inn := own_of ho1
        obtain ⟨av, cv, hv, hrv, _⟩ := hO1.rd
        rw [HIL.out] at hv hrv
        rw [hv] at hO1 ⊢
        have z1 := B1.size
        have Bd : Below w.heap.size w w1.drew := B1.drew
        have K8 := fun (W : World) (hb : Below w.heap.size w W) => str_rd (q2.later hb)
        have HS : Hid (∀ W, Rd W av m cv inn → Calls Tryz.prog 42 #[.slice av m cv] W fun e w' => e = .returned (.int .u64 ((crc inn).toNat : Int)) ∧ W = w') := fun W h => rsum_any _ _ _ _ W h
        have HO1 : Hid (Own w1 w.heap.size (.slice av m cv) inn) := hO1
        have HRV : Hid (Rd w1 av m cv inn) := hrv
        clear ho1 hgrow A1 q1 hO1 hrv hv
        by_cases hs : crc inn ≠ join l8
        · rw [if_pos hs] at hR
          subst hR
          have hne : (eight (crc inn) != l8) = true := by rw [heq]; exact bne_iff_ne.2 hs
          have hne2 : (eight (crc inn) == l8) = false := by simpa using hne
          clear heq hs
          generalize crc inn = cr at HS hne hne2
          have HE : Hid (∀ W, Calls Tryz.prog 41 #[.int .u64 (cr.toNat : Int)] W fun e w' => ∃ a c, e = .returned (.slice a 8 c) ∧ (convert 22 9 (.slice a 8 c)).run Tryz.prog w' = .ok (.string ⟨(eight cr).toArray⟩) w' ∧ Below W.heap.size W w') := fun W => by
            refine (reight_any cr W).mono ?_
            rintro e w5 ⟨v, rfl, ho, b⟩
            obtain ⟨a, c, rfl, hr, _⟩ := ho.rd
            exact ⟨a, c, rfl, str_rd hr, b⟩
          generalize eight cr = e8 at hne hne2 HE
          go_wp2_with fail
          go_region_with (first
            | (go_at_call 42; refine (HS.out _ ?_).mono ?_; exact HRV.out; rintro e w' ⟨rfl, rfl⟩)
            | (go_at_call 41; refine (HE.out _).mono ?_; rintro e w2 ⟨a5, c5, rfl, q5, b2⟩; have B2 : Below w.heap.size w w2 := Bd.trans (b2.mono z1)))
          all_goals go_wp2
          all_goals go_ret3
          all_goals exact ⟨_, rfl, World.ownsRow_nil _ _ _ _, B2⟩
        · rw [if_neg hs] at hR
          subst hR
          have hs' : crc inn = join l8 := by
            by_cases h : crc inn = join l8
            · exact h
            · exact absurd h hs
          have hne : (eight (crc inn) != l8) = false := by rw [heq, hs']; simp
          have hne2 : (eight (crc inn) == l8) = true := by simpa using hne
          clear heq hs hs'
          generalize crc inn = cr at HS hne hne2
          have HE : Hid (∀ W, Calls Tryz.prog 41 #[.int .u64 (cr.toNat : Int)] W fun e w' => ∃ a c, e = .returned (.slice a 8 c) ∧ (convert 22 9 (.slice a 8 c)).run Tryz.prog w' = .ok (.string ⟨(eight cr).toArray⟩) w' ∧ Below W.heap.size W w') := fun W => by
            refine (reight_any cr W).mono ?_
            rintro e w5 ⟨v, rfl, ho, b⟩
            obtain ⟨a, c, rfl, hr, _⟩ := ho.rd
            exact ⟨a, c, rfl, str_rd hr, b⟩
          generalize eight cr = e8 at hne hne2 HE
          go_wp2_with fail
          go_region_with (first
            | (go_at_call 42; refine (HS.out _ ?_).mono ?_; exact HRV.out; rintro e w' ⟨rfl, rfl⟩)
            | (go_at_call 41; refine (HE.out _).mono ?_; rintro e w2 ⟨a5, c5, rfl, q5, b2⟩; have B2 : Below w.heap.size w w2 := Bd.trans (b2.mono z1); have O2 : Hid (Own w2 w.heap.size (.slice av m cv) inn) := HO1.out.later (w' := w2) ⟨b2.os, b2.tape, b2.output, b2.size, b2.block⟩))
          all_goals go_wp2
          all_goals go_ret3
          all_goals exact ⟨_, ret_three rfl (by rfl) rfl, O2.out, B2⟩
  · rw [if_pos he] at hR
    subst hR
    clear hsz h
    have he2 : ((er : Int) != 0) = true := by simp; omega
    clear he
    go_enter Tryz.func22, Tryz.ntmps22
    go_wp2_with (go_at_call 40; refine HC.out.mono ?_; rintro e w' ⟨rfl, rfl⟩)
    go_ret3
    exact ⟨_, rfl, World.ownsRow_nil _ _ _ _, Below.refl _ _⟩
end Go.Proofs.YtonjjbmjholkjaaGreatDoor
