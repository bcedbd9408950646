/-
  The document's quoted and Parse at the texts of literals.
-/
import Derived.Test.YtibbenhplmmmiaaGreatDoorLRPrint
import Derived.Test.YtibbenhplmmmiaaGreatDoorLParse
import Derived.Test.YtibbenhplmmmiaaGreatDoorMrDScan
namespace Go.Proofs.YtibbenhplmmmiaaGreatDoor
open Go.RowKit Go.Shelf
attribute [local go_sem] cell?_more frozen?_more setCell_more more_lt more_more more_drew more_drewN setCell_drewN alloc_drewN

/-- What the document reads within quotes: each two of them as one. -/
def qrL : List UInt8 → List UInt8
  | [] => []
  | [c] => [c]
  | c :: d :: l => if c = 39 then 39 :: qrL l else c :: qrL (d :: l)
theorem qr_cons (c : UInt8) (l : List UInt8) : qrL (c :: l) = c :: (if c = 39 then qrL (l.drop 1) else qrL l) := by
  match l with
  | [] => simp [qrL]
  | d :: l =>
    rw [qrL]
    by_cases h : c = 39
    · rw [if_pos h, if_pos h, h]; rfl
    · rw [if_neg h, if_neg h]
theorem qr_dbl (b : List UInt8) : qrL (dbl b) = b := by
  induction b with
  | nil => rfl
  | cons c b ih =>
    have e : dbl (c :: b) = (if c = 39 then [39, 39] else [c]) ++ dbl b := by simp [dbl]
    rw [e]
    by_cases h : c = 39
    · rw [if_pos h, h]
      show qrL (39 :: 39 :: dbl b) = _
      rw [qr_cons, if_pos rfl]
      show 39 :: qrL (dbl b) = _
      rw [ih]
    · rw [if_neg h]
      show qrL (c :: dbl b) = _
      rw [qr_cons, if_neg h, ih]
theorem unq_dbl (b : List UInt8) : unqL (dbl b ++ [39]) = some b := by
  induction b with
  | nil => rfl
  | cons c b ih =>
    have e : dbl (c :: b) = (if c = 39 then [39, 39] else [c]) ++ dbl b := by simp [dbl]
    rw [e]
    by_cases h : c = 39
    · rw [if_pos h, h]
      show unqL (39 :: 39 :: (dbl b ++ [39])) = _
      rw [unq_two, ih]; rfl
    · rw [if_neg h]
      show unqL (c :: (dbl b ++ [39])) = _
      rw [unq_other _ _ h, ih]; rfl

set_option maxRecDepth 20000 in
set_option maxHeartbeats 4000000 in
theorem rquoted_any (t : List UInt8) (w : World) (ht : t.length ≤ 4096) (h2 : 2 ≤ t.length) :
    Calls Tryz.prog 31 #[.string ⟨t.toArray⟩] w fun e w' => e = .returned (.string ⟨(qrL ((t.take (t.length - 1)).drop 1)).toArray⟩) ∧ Below w.heap.size w w' := by
  obtain ⟨i0, hi, hz0, hz1, hz2⟩ := info_parts Tryz.info5
  obtain ⟨R, hR⟩ : ∃ R, R = qrL ((t.take (t.length - 1)).drop 1) := ⟨_, rfl⟩
  rw [← hR]
  have HR : Hid (R = qrL ((t.take (t.length - 1)).drop 1)) := hR
  clear hR
  have hsz : (ByteArray.mk t.toArray).size = t.length := rfl
  have HB : Hid (∀ (k : Nat) h, (ByteArray.mk t.toArray)[k]'h = bat t k) := fun k h => by
    have h' : k < t.length := h
    show t[k] = _
    unfold bat
    simp [List.getD, h']
  generalize ByteArray.mk t.toArray = B at *
  go_enter Tryz.func31, Tryz.ntmps31
  go_wp2
  go_loopw [3, 4] (fun r3 r4 wr => ∃ (k : Nat) (acc : List UInt8), r4 = .int .i64 (k : Int) ∧ 1 ≤ k ∧ k ≤ t.length ∧ acc.length ≤ k ∧ Own wr w.heap.size r3 acc ∧ Below w.heap.size w wr ∧ Hid (R = acc ++ qrL ((t.take (t.length - 1)).drop k))) (fun _ r _ => t.length + 1 - (intOf r).toNat)
  case atStart => exact ⟨1, [], rfl, Nat.le_refl _, by omega, by simp, World.ownsRow_nil _ _ _ _, Below.refl _ _, HR⟩
  case round =>
    obtain ⟨k, acc, rfl, k1, k2, hak, ho, hB, hH⟩ := hrel
    have sB := hB.size
    by_cases hlt : k < t.length - 1
    · have hlt' : (k : Int) < (t.length : Int) - 1 := by omega
      have j0 : (0 : Int) ≤ (k : Int) := by omega
      have j1 : (k : Int) < (t.length : Int) := by omega
      have hgk := HB.out k
      have hdr : (t.take (t.length - 1)).drop k = bat t k :: (t.take (t.length - 1)).drop (k + 1) := by
        rw [List.drop_eq_getElem_cons (by rw [List.length_take]; omega), List.getElem_take]
        unfold bat
        rw [List.getD_eq_getElem?_getD, List.getElem?_eq_getElem (by omega)]
        rfl
      have HH := hH.out
      rw [hdr, qr_cons] at HH
      obtain ⟨c, hc⟩ : ∃ c, c = bat t k := ⟨_, rfl⟩
      rw [← hc] at hgk HH
      by_cases hq : c = 39
      · have hq' : ((c.toNat : Int) == 39) = true := by rw [hq]; rfl
        rw [if_pos hq, List.drop_drop] at HH
        have hH' : Hid (R = (acc ++ [c]) ++ qrL ((t.take (t.length - 1)).drop (k + 1 + 1))) := by
          show R = _
          rw [HH]; simp
        clear hH HH hdr hc hq HR
        go_wp2_with (at_builtin; refine wpList_append_own _ rfl _ _ 36 rfl w.heap.size 5 i0 (.int .u8 0) 1 1 Tryz.underlying36 hi hz0 hz1 hz2 rfl (by decide) _ _ _ rfl (World.ownsRow.alloc ho _) ⟨wr.heap.size, 0, none⟩ 1 1 [.int .u8 (c.toNat : Int)] rfl rfl (cell_one_new _ _ _) (one_cell _ _) (by unfold maxLen; omega) (by omega) (by simp; omega) ?_)
        intro v1 w1 hown1 hgrow1 _
        have hB1 : Below w.heap.size w w1 := ((hB.alloc (by omega) _).grown hgrow1 (by simp; omega) (fun k hk => (World.ownsRow.lt ho k hk).1))
        have hO := own_push hown1
        clear hown1 hgrow1 ho hB
        go_wp2
        exact ⟨⟨k + 1 + 1, acc ++ [c], by rw [show ((k + 1 + 1 : Nat) : Int) = (k : Int) + 1 + 1 by omega], by omega, by omega, by simp; omega, hO, hB1, hH'⟩, by simp [intOf] <;> omega⟩
      · have hq' : ((c.toNat : Int) == 39) = false := by rw [beq_eq_false_iff_ne]; exact fun h => hq (UInt8.toNat_inj.1 (by show c.toNat = 39; omega))
        rw [if_neg hq] at HH
        have hH' : Hid (R = (acc ++ [c]) ++ qrL ((t.take (t.length - 1)).drop (k + 1))) := by
          show R = _
          rw [HH]; simp
        clear hH HH hdr hc hq HR
        go_wp2_with (at_builtin; refine wpList_append_own _ rfl _ _ 36 rfl w.heap.size 5 i0 (.int .u8 0) 1 1 Tryz.underlying36 hi hz0 hz1 hz2 rfl (by decide) _ _ _ rfl (World.ownsRow.alloc ho _) ⟨wr.heap.size, 0, none⟩ 1 1 [.int .u8 (c.toNat : Int)] rfl rfl (cell_one_new _ _ _) (one_cell _ _) (by unfold maxLen; omega) (by omega) (by simp; omega) ?_)
        intro v1 w1 hown1 hgrow1 _
        have hB1 : Below w.heap.size w w1 := ((hB.alloc (by omega) _).grown hgrow1 (by simp; omega) (fun k hk => (World.ownsRow.lt ho k hk).1))
        have hO := own_push hown1
        clear hown1 hgrow1 ho hB
        go_wp2
        exact ⟨⟨k + 1, acc ++ [c], by rw [cast1], by omega, by omega, by simp; omega, hO, hB1, hH'⟩, by simp [intOf] <;> omega⟩
    · have hlt' : ¬ (k : Int) < (t.length : Int) - 1 := by omega
      have HF : Hid (R = acc) := by
        show R = _
        rw [hH.out, List.drop_eq_nil_of_le (by rw [List.length_take]; omega)]
        simp [qrL]
      clear hH HR
      obtain ⟨ao2, cap2, rfl, hrd, _⟩ := ho.rd
      have hcv := run_string_of 36 9 5 Tryz.underlying36 Tryz.underlying5 Tryz.underlying9 hrd
      clear hrd ho
      go_wp2
      go_ret
      exact ⟨by rw [HF.out]; rfl, hB⟩
end Go.Proofs.YtibbenhplmmmiaaGreatDoor
