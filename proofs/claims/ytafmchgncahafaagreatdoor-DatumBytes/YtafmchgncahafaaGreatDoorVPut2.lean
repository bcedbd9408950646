/-
  The contract of datum.Put.
-/
import Derived.Test.YtafmchgncahafaaGreatDoorVPut
namespace Go.Proofs.YtafmchgncahafaaGreatDoor
open Go.RowKit Go.Shelf
attribute [local go_sem] cell?_more frozen?_more setCell_more more_lt more_more more_drew more_drewN setCell_drewN alloc_drewN

/-- A value's numbers are numbers of the program. -/
def vin (v : Va) : Prop := (-9223372036854775808 ≤ v.n ∧ v.n ≤ 9223372036854775807) ∧ (-9223372036854775808 ≤ v.m ∧ v.m ≤ 9223372036854775807)

theorem appendValue_ok (v : Va) (x : Value) (bs : List UInt8) (base : Nat) (w : World) (hv : vr v = true) (hi : vin v) (hown : Own w base x bs) (hb : base ≤ w.heap.size) (hl : bs.length ≤ 1000000) :
    Calls Tryz.prog 18 #[x, vv v] w fun e w' => ∃ v', e = .returned v' ∧ Own w' base v' (bs ++ vbytes v) ∧ Below base w w' := by
  have hk := (vr_iff v).1 hv
  obtain ⟨k, n, m, b⟩ := v
  simp only [vok, vin] at hk hi
  rcases hk with ⟨rfl, rfl, rfl, rfl⟩ | ⟨rfl, rfl, rfl⟩ | ⟨rfl, _, _, rfl⟩ | ⟨rfl, rfl, rfl, h, _⟩ | ⟨rfl, _, rfl, rfl⟩ | ⟨rfl, _, _, _, _, rfl⟩
  · exact appendValue_0 x bs base w hown hb hl
  · exact appendValue_1 x bs base n w hown hb hl hi.1.1 hi.1.2
  · exact appendValue_2 x bs base n m w hown hb hl hi.1.1 hi.1.2 hi.2.1 hi.2.2
  · exact appendValue_3 x bs base b w hown hb hl h
  · exact appendValue_4 x bs base n w hown hb hl hi.1.1 hi.1.2
  · exact appendValue_5 x bs base n m w hown hb hl hi.1.1 hi.1.2 hi.2.1 hi.2.2

theorem vbytes_len (v : Va) (hv : vr v = true) : (vbytes v).length ≤ 300 := by
  have hk := (vr_iff v).1 hv
  obtain ⟨k, n, m, b⟩ := v
  have a := (numBytes_len k).2
  have b1 := (numBytes_len n).2
  have b2 := (numBytes_len m).2
  have b3 := (numBytes_len ((ByteArray.mk b.toArray).size : Int)).2
  simp only [vok] at hk
  simp only [vbytes, List.length_append]
  repeat' split
  · omega
  · simp only [List.length_append]; omega
  · have hb : b.length ≤ 256 := by rcases hk with h | h | h | h | h | h <;> (try omega) <;> exact h.2.2.2.1
    have hs : (ByteArray.mk b.toArray).data.toList.length = b.length := by simp
    simp only [textBytes, List.length_append]
    omega
  · simp; omega

/-- Bytes of values, one behind the other. -/
def many (f : Va → List UInt8) (l : List Va) : List UInt8 := l.flatMap f
theorem many_take (f : Va → List UInt8) (l : List Va) (k : Nat) (h : k < l.length) : many f (l.take (k + 1)) = many f (l.take k) ++ f l[k] := by
  unfold many
  rw [← List.take_append_getElem h]
  simp only [List.flatMap_append, List.flatMap_cons, List.flatMap_nil, List.append_nil]
theorem many_len (f : Va → List UInt8) (c : Nat) (l : List Va) (h : ∀ v ∈ l, (f v).length ≤ c) : (many f l).length ≤ c * l.length := by
  induction l with
  | nil => simp [many]
  | cons v l ih =>
    have h1 := h v (by simp)
    have h2 := ih fun v hv => h v (by simp [hv])
    simp only [many, List.flatMap_cons, List.length_append, List.length_cons, Nat.mul_succ] at *
    omega

theorem put_bad (ao : Option Addr) (cap : Nat) (l : List Va) (w : World) (hT : Tabs w) (hv : Vs w ao l) (hl : l.length ≤ 9223372036854775807) (hE : ckE l ≠ 0) :
    Calls Tryz.prog 6 #[.slice ao l.length cap] w fun e w' => e = .returned (.tuple #[.slice none 0 0, .int .i64 (ckE l)]) ∧ Below w.heap.size w w' := by
  have C := checked_any ao cap l w hT hv hl
  have h0 : (ckE l == 0) = false := by simpa using hE
  have h1 : (ckE l != 0) = true := by simpa using hE
  generalize ckE l = E at *
  generalize l.length = n at *
  clear hT hv hE
  go_enter Tryz.func6, Tryz.ntmps6
  go_wp2_with fail
  refine C.mono ?_
  rintro e w1 ⟨rfl, b1⟩
  go_wp2
  go_ret2
  exact ⟨rfl, b1⟩

set_option maxHeartbeats 2000000 in
theorem put_good (ao : Option Addr) (cap : Nat) (l : List Va) (w : World) (hT : Tabs w) (hv : Vs w ao l) (hE : ckE l = 0) (hin : ∀ v ∈ l, vin v) :
    Calls Tryz.prog 6 #[.slice ao l.length cap] w fun e w' => ∃ v', e = .returned (.tuple #[v', .int .i64 0]) ∧ Own w' w.heap.size v' (numBytes (l.length : Int) ++ many vbytes l) ∧ Below w.heap.size w w' := by
  have hlen : l.length ≤ 64 := by
    unfold ckE at hE
    split at hE
    · omega
    · omega
  have hall : ∀ v ∈ l, vr v = true := by
    unfold ckE at hE
    rw [if_neg (by omega)] at hE
    split at hE
    · rename_i h; exact fun v hv => List.all_eq_true.1 h v hv
    · omega
  have C := checked_any ao cap l w hT hv (by omega)
  rw [hE] at C
  obtain ⟨i0, hi, hz0, hz1, hz2⟩ := info_parts Tryz.info5
  obtain ⟨n, hn⟩ : ∃ n, l.length = n := ⟨_, rfl⟩
  rw [hn] at hlen C ⊢
  have HN : Hid (l.length = n) := hn
  have ML : ∀ k, k ≤ n → (many vbytes (l.take k)).length ≤ 300 * 64 := by
    intro k hk
    have h1 := many_len vbytes 300 (l.take k) (fun v hv => vbytes_len v (hall v (List.mem_of_mem_take hv)))
    have h2 : (l.take k).length = k := by simp; omega
    rw [h2] at h1
    have h3 : 300 * k ≤ 300 * 64 := Nat.mul_le_mul_left _ (by omega)
    omega
  have HM : Hid (∀ k, k ≤ n → (many vbytes (l.take k)).length ≤ 300 * 64) := ML
  clear hn hE ML
  go_enter Tryz.func6, Tryz.ntmps6
  go_wp2_with fail
  refine C.mono ?_
  rintro e w1 ⟨rfl, b1⟩
  have s1 := b1.size
  go_wp2_with fail
  refine (number_any (n : Int) _ (by omega) (by omega)).mono ?_
  rintro e wN ⟨y, rfl, oy, bY⟩
  have bN := b1.trans (bY.mono s1)
  have oN := oy.more s1
  have nl := (numBytes_len (n : Int)).2
  have HNL : Hid ((numBytes (n : Int)).length ≤ 10) := nl
  clear oy bY nl
  go_wp2
  go_loopw [5, 18] (fun x r wr => ∃ k : Nat, r = .int .i64 (k : Int) ∧ k ≤ n ∧ Own wr w.heap.size x (numBytes (n : Int) ++ many vbytes (l.take k)) ∧ Below w.heap.size w wr) (fun _ r _ => n - (intOf r).toNat)
  case atStart => exact ⟨0, rfl, Nat.zero_le _, by simpa [many] using oN, bN⟩
  case round =>
    obtain ⟨k, rfl, hk, ho, hB⟩ := hrel
    have sB := hB.size
    by_cases hlt : k < n
    · have hlt' : (k : Int) < (n : Int) := by omega
      have hkl : k < l.length := by rw [HN.out]; exact hlt
      obtain ⟨b, off, rfl, hc⟩ := hv (by omega)
      obtain ⟨c0, c1, c2, c3⟩ := ((hc k hkl).later hB)
      have hg := (hc k hkl).lt
      have hg' : b < wr.heap.size := by omega
      have hML := HM.out k (by omega)
      have hbl : (numBytes (n : Int) ++ many vbytes (l.take k)).length ≤ 1000000 := by have := HNL.out; simp only [List.length_append]; omega
      have R : ∀ W, Grew wr W → Calls Tryz.prog 18 #[u5, vv l[k]] W fun e w' => ∃ v', e = .returned v' ∧ Own w' w.heap.size v' (numBytes (n : Int) ++ many vbytes (l.take k) ++ vbytes l[k]) ∧ Below w.heap.size W w' :=
        fun W h => appendValue_ok l[k] u5 _ w.heap.size W (hall _ (List.getElem_mem _)) (hin _ (List.getElem_mem _)) (ho.later h.below) (by have := h.size; omega) hbl
      have hmt := many_take vbytes l k hkl
      obtain ⟨⟨vk, vn, vm, vb⟩, he⟩ : ∃ v : Va, v = l[k] := ⟨_, rfl⟩
      rw [← he] at c0 c1 c2 c3 R hmt
      obtain ⟨Y, hY⟩ : ∃ Y, Y = numBytes (n : Int) ++ many vbytes (l.take k) ++ vbytes ⟨vk, vn, vm, vb⟩ := ⟨_, rfl⟩
      rw [← hY] at R
      have HY : Hid (numBytes (n : Int) ++ many vbytes (l.take (k + 1)) = Y) := by
        show _ = _
        rw [hY, hmt]
        simp
      clear hc he hmt hY hT hv hML hbl ho
      go_wp2_with (go_at_call 18; refine (R _ (by repeat (first | exact Grew.refl _ | apply Grew.drew | apply Grew.drewN | apply Grew.alloc | apply Grew.more))).mono ?_; rintro e w2 ⟨v2, rfl, ho2, hb2⟩)
      go_roundw
      case rel =>
        refine ⟨k + 1, by go_num, by omega, by rw [HY.out]; exact ho2, hB.trans ((Below.mono (Grew.below (by repeat (first | exact Grew.refl _ | apply Grew.drew | apply Grew.drewN | apply Grew.alloc | apply Grew.more))) sB).trans hb2)⟩
      case measure => simp [intOf]; omega
    · have hlt' : ¬ (k : Int) < (n : Int) := by omega
      have hkn : k = n := by omega
      have e1 : l.take k = l := List.take_of_length_le (by have := HN.out; omega)
      rw [e1] at ho
      have hML := HM.out k (by omega)
      rw [e1] at hML
      clear e1
      go_wp2
      go_ret2
      exact ⟨_, rfl, ho, hB⟩

end Go.Proofs.YtafmchgncahafaaGreatDoor
