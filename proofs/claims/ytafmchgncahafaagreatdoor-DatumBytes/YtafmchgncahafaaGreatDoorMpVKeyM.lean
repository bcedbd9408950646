/-
  The contract of the document's Good: whether a text is good UTF-8, as the library's ValidString tells it.
  Numbers as bytes of a key: a wide number is its two words, one behind the other; the units at the greatest scale in 128 bits.
-/
import Derived.Test.YtafmchgncahafaaGreatDoorProg
import Derived.WalkKit
import Derived.WalkMore
import Derived.WalkSpells
import Derived.WalkLawsBesides
import Derived.RowKit
import Derived.Below
import Derived.Laws.RangeAny
import Derived.Lib.TrimUEq
import Derived.Lib.ValidLaws
import Derived.Lib.OthersKept
import Derived.Laws.IdiomStrings
import Derived.Test.YtafmchgncahafaaGreatDoorVMath
namespace Go.Proofs.YtafmchgncahafaaGreatDoor
open Go.RowKit

theorem bad_rune (l : List UInt8) (hne : l ≠ []) (hr : (Lib.decodeL l).1 = 65533) : (Lib.decodeL l).2 = 1 ↔ (l.length < 3 ∨ l.take 3 ≠ [239, 191, 189]) := by
  rw [Lib.decodeL_N] at hr ⊢
  have b0 := (l.getD 0 0).toNat_lt
  have b1 := (l.getD 1 0).toNat_lt
  have b2 := (l.getD 2 0).toNat_lt
  have b3 := (l.getD 3 0).toNat_lt
  have key : l.take 3 = [239, 191, 189] ↔ (3 ≤ l.length ∧ (l.getD 0 0).toNat = 239 ∧ (l.getD 1 0).toNat = 191 ∧ (l.getD 2 0).toNat = 189) := by
    match l with
    | [] => simp
    | [a] => simp
    | [a, b] => simp
    | a :: b :: c :: l =>
      simp only [List.take_succ_cons, List.take_zero, List.cons.injEq, and_true, List.length_cons, List.getD_cons_zero, List.getD_cons_succ]
      constructor
      · rintro ⟨rfl, rfl, rfl⟩; exact ⟨by omega, rfl, rfl, rfl⟩
      · rintro ⟨_, h0, h1, h2⟩; exact ⟨UInt8.toNat_inj.1 h0, UInt8.toNat_inj.1 h1, UInt8.toNat_inj.1 h2⟩
  rw [Ne, key]
  have hl : 0 < l.length := List.length_pos_iff.2 hne
  generalize (l.getD 0 0).toNat = a at *
  generalize (l.getD 1 0).toNat = b at *
  generalize (l.getD 2 0).toNat = c at *
  generalize (l.getD 3 0).toNat = d at *
  generalize l.length = n at *
  clear key
  unfold Lib.decodeN at hr ⊢
  split at hr
  · rename_i h; exfalso; simp only at hr; omega
  rename_i h
  rw [if_neg h]
  split at hr
  · rename_i h'
    rw [if_pos h']
    split at hr
    · exfalso; simp only at hr; omega
    · rename_i h''; rw [if_neg h'']
      refine ⟨fun _ => ?_, fun _ => rfl⟩
      by_cases hn : 3 ≤ n ∧ a = 239 ∧ b = 191 ∧ c = 189
      · exfalso; obtain ⟨h4, rfl, rfl, rfl⟩ := hn; omega
      · exact .inr hn
  rename_i h'
  rw [if_neg h']
  split at hr
  · rename_i h2
    rw [if_pos h2]
    split at hr
    · rename_i h''; rw [if_pos h'']
      simp only at hr
      refine ⟨fun h => by simp at h, fun h => ?_⟩
      exfalso
      rcases h with h | h
      · omega
      · exact h ⟨by omega, by omega, by omega, by omega⟩
    · rename_i h''; rw [if_neg h'']
      refine ⟨fun _ => ?_, fun _ => rfl⟩
      by_cases hn : 3 ≤ n ∧ a = 239 ∧ b = 191 ∧ c = 189
      · exfalso; obtain ⟨h4, rfl, rfl, rfl⟩ := hn; omega
      · exact .inr hn
  rename_i h2
  rw [if_neg h2]
  split at hr
  · rename_i h3
    rw [if_pos h3]
    split at hr
    · exfalso; simp only at hr; omega
    · rename_i h''; rw [if_neg h'']
      refine ⟨fun _ => ?_, fun _ => rfl⟩
      by_cases hn : 3 ≤ n ∧ a = 239 ∧ b = 191 ∧ c = 189
      · exfalso; obtain ⟨h4, rfl, rfl, rfl⟩ := hn; omega
      · exact .inr hn
  rename_i h3
  rw [if_neg h3]
  refine ⟨fun _ => ?_, fun _ => rfl⟩
  by_cases hn : 3 ≤ n ∧ a = 239 ∧ b = 191 ∧ c = 189
  · exfalso; obtain ⟨h4, rfl, rfl, rfl⟩ := hn; omega
  · exact .inr hn

theorem extract3 (s : ByteArray) (pos : Nat) (_h : pos + 3 ≤ s.size) : (s.extract pos (pos + 3)).toList = (s.data.toList.drop pos).take 3 := by
  rw [ByteArray.toList_eq]
  simp [ByteArray.data_extract]

set_option maxHeartbeats 1000000 in
theorem good_any (s : ByteArray) (w : World) (hs : s.size ≤ 140737488351232) : Calls Tryz.prog 68 #[.string s] w fun e w' => e = .returned (.bool (Lib.validD s.data.toList)) ∧ Below w.heap.size w w' := by
  obtain ⟨V, hV⟩ : ∃ V, V = Lib.validD s.data.toList := ⟨_, rfl⟩
  rw [← hV]
  have hsz : s.data.toList.length = s.size := rfl
  have bel : ∀ pos, Below w.heap.size w (w.iter s pos) := fun pos => (Below.refl _ w).alloc (Nat.le_refl _) _
  go_enter Tryz.func68, Tryz.ntmps68
  go_wp2
  go_loopw [7] (fun _ wr => ∃ pos : Nat, wr = w.iter s pos ∧ pos ≤ s.size ∧ Hid (Lib.validD (s.data.toList.drop pos) = V)) (fun _ wr => s.size - wr.iterPos w.heap.size)
  case atStart => exact ⟨0, rfl, Nat.zero_le _, hV.symm⟩
  case round =>
    obtain ⟨pos, rfl, hp0, HV⟩ := hrel
    by_cases hp : pos < s.size
    · have hne : s.data.toList.drop pos ≠ [] := by
        intro h
        have := congrArg List.length h
        simp at this
        omega
      have hdd := Lib.decodeL_drop s pos
      have hst := Lib.validD_step _ hne
      have hwd := Lib.decodeL_width (s.data.toList.drop pos)
      have hle := Lib.decodeL_le _ hne
      rw [List.length_drop, hsz] at hle
      have hbr := bad_rune _ hne
      have hdl : (s.data.toList.drop pos).length = s.size - pos := by simp
      have hnx : ∀ ty, (Instr.next (.pointer (some ⟨w.heap.size, 0, none⟩)) true ty).run Tryz.prog (w.iter s pos) = _ := fun ty => run_next_any w s pos ty hp
      rw [hdd] at hst hwd hle hbr
      rw [List.drop_drop] at hst
      generalize Utf8.decode s pos = d at *
      obtain ⟨c, n⟩ := d
      simp only at hnx hst hwd hle hbr
      by_cases hc : c = 65533
      · subst hc
        by_cases h3 : s.size < pos + 3
        · have h3' : (s.size : Int) < (pos : Int) + 3 := by omega
          have HF : Hid (V = false) := by
            show V = false
            rw [← HV.out, hst, if_pos ⟨rfl, (hbr rfl).2 (.inl (by omega))⟩]
          clear hdd hst hbr hV HV hne hdl
          go_wp2
          go_ret
          exact ⟨by rw [HF.out]; rfl, bel _⟩
        · have h3' : ¬ (s.size : Int) < (pos : Int) + 3 := by omega
          have h3n : pos + 3 ≤ s.size := by omega
          have h3z : (pos : Int) + 3 ≤ (s.size : Int) := by omega
          have hx := extract3 s pos h3n
          by_cases he : (s.data.toList.drop pos).take 3 = [239, 191, 189]
          · have hx' : ((s.extract pos (pos + 3)).toList == [239, 191, 189]) = true := by rw [hx, he]; rfl
            have hn1 : n ≠ 1 := fun h => by
              rcases (hbr rfl).1 h with h | h
              · omega
              · exact h he
            have HV' : Hid (Lib.validD (s.data.toList.drop (pos + n)) = V) := by
              show _ = _
              rw [← HV.out, hst, if_neg (fun h => hn1 h.2)]
            clear hdd hst hbr hV HV hne hdl hx he
            go_wp2
            go_roundw
            case rel => exact ⟨pos + n, rfl, by omega, HV'⟩
            case measure => simp; omega
          · have hx' : ((s.extract pos (pos + 3)).toList == [239, 191, 189]) = false := by rw [hx]; exact beq_eq_false_iff_ne.2 he
            have HF : Hid (V = false) := by
              show V = false
              rw [← HV.out, hst, if_pos ⟨rfl, (hbr rfl).2 (.inr he)⟩]
            clear hdd hst hbr hV HV hne hdl hx he
            go_wp2
            go_ret
            exact ⟨by rw [HF.out]; rfl, bel _⟩
      · have hc' : ((c : Int) == 65533) = false := by rw [beq_eq_false_iff_ne]; omega
        have HV' : Hid (Lib.validD (s.data.toList.drop (pos + n)) = V) := by
          show _ = _
          rw [← HV.out, hst, if_neg (fun h => hc h.1)]
        clear hdd hst hbr hV HV hne hdl hc
        go_wp2
        go_roundw
        case rel => exact ⟨pos + n, rfl, by omega, HV'⟩
        case measure => simp; omega
    · have hnx : ∀ ty, (Instr.next (.pointer (some ⟨w.heap.size, 0, none⟩)) true ty).run Tryz.prog (w.iter s pos) = _ := fun ty => run_next_end w s pos ty hp
      have HF : Hid (V = true) := by
        show V = true
        rw [← HV.out, List.drop_eq_nil_of_le (by omega)]
        rfl
      clear hV HV
      go_wp2
      go_ret
      exact ⟨by rw [HF.out]; rfl, bel _⟩
end Go.Proofs.YtafmchgncahafaaGreatDoor

namespace Go.Proofs.YtafmchgncahafaaGreatDoor

theorem bigE_get (k n j : Nat) (h : j < k) : (bigE k n)[j]'(by rw [bigE_len]; exact h) = UInt8.ofNat (n / 256 ^ (k - 1 - j) % 256) := by
  induction k generalizing j with
  | zero => omega
  | succ k ih =>
    cases j with
    | zero => simp [bigE]
    | succ j =>
      simp only [bigE, List.getElem_cons_succ]
      rw [ih j (by omega), show k + 1 - 1 - (j + 1) = k - 1 - j by omega]

theorem bigE_succ (k n : Nat) : bigE (k + 1) n = UInt8.ofNat (n / 256 ^ k % 256) :: bigE k n := rfl
theorem bigE_two (H L : Nat) (hL : L < 256 ^ 8) : bigE 16 (H * 256 ^ 8 + L) = bigE 8 H ++ bigE 8 L := by
  suffices K : ∀ k, bigE (k + 8) (H * 256 ^ 8 + L) = bigE k H ++ bigE 8 L from K 8
  intro k
  induction k with
  | zero =>
    rw [Nat.zero_add, bigE_mod 8 (H * 256 ^ 8 + L), Nat.add_comm (H * 256 ^ 8), Nat.add_mul_mod_self_right, ← bigE_mod]
    rfl
  | succ k ih =>
    rw [show k + 1 + 8 = (k + 8) + 1 by omega, bigE_succ (k + 8), bigE_succ k, ih, List.cons_append]
    congr 3
    rw [Nat.pow_add, Nat.mul_comm (256 ^ k), ← Nat.div_div_eq_div_mul, Nat.add_comm (H * 256 ^ 8), Nat.add_mul_div_right _ _ (by decide), Nat.div_eq_of_lt hL, Nat.zero_add]

theorem esc_take (l : List UInt8) (i : Nat) (h : i < l.length) : esc (l.take (i + 1)) = esc (l.take i) ++ (if l[i] = 0 then [0, 255] else [l[i]]) := by
  induction l generalizing i with
  | nil => simp at h
  | cons c l ih =>
    cases i with
    | zero => by_cases hc : c = 0 <;> simp [esc, hc]
    | succ i =>
      have := ih i (by simpa using h)
      simp only [List.take_succ_cons, List.getElem_cons_succ]
      by_cases hc : c = 0
      · simp only [esc, hc, if_true, List.cons_append]; rw [this]
      · simp only [esc, hc, if_false, List.cons_append]; rw [this]
theorem esc_len (l : List UInt8) : (esc l).length ≤ 2 * l.length := by
  induction l with
  | nil => simp [esc]
  | cons c l ih => by_cases hc : c = 0 <;> simp [esc, hc] <;> omega

/-- A number's units at the greatest scale, 2^127 added, out of the two words of a product. -/
theorem words_pos (n p H L : Nat) (h : n * p = H * 2 ^ 64 + L) : ((n : Int) * (p : Int) + 2 ^ 127).toNat = (H + 2 ^ 63) * 256 ^ 8 + L := by
  have e : ((n : Int) * (p : Int)) = ((n * p : Nat) : Int) := by rw [Int.natCast_mul]
  rw [e, h]
  omega
theorem words_neg (n : Int) (p U H L : Nat) (hn : n < 0) (hU : (U : Int) = n + 2 ^ 64) (hp1 : 1 ≤ p) (hp : p ≤ 1000000) (hn0 : -2 ^ 63 ≤ n) (h : U * p = H * 2 ^ 64 + L) (hL : L < 2 ^ 64) :
    (n * (p : Int) + 2 ^ 127).toNat = ((H + 2 ^ 64 - p + 2 ^ 63) % 2 ^ 64) * 256 ^ 8 + L ∧ H < p := by
  have e : (n : Int) * (p : Int) = (H : Int) * 2 ^ 64 + (L : Int) - (p : Int) * 2 ^ 64 := by
    have h1 : ((U * p : Nat) : Int) = (H : Int) * 2 ^ 64 + (L : Int) := by rw [h]; omega
    rw [Int.natCast_mul, hU, Int.add_mul] at h1
    omega
  have hlt : U * p ≤ (2 ^ 64 - 1) * p := Nat.mul_le_mul_right p (by omega)
  have hHp : H < p := by omega
  refine ⟨?_, hHp⟩
  rw [e, show (H + 2 ^ 64 - p + 2 ^ 63) % 2 ^ 64 = H + 2 ^ 63 - p by omega]
  omega
end Go.Proofs.YtafmchgncahafaaGreatDoor
