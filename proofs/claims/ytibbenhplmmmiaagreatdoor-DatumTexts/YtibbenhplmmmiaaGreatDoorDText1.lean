/-
  The document's Digits: the digits of a number.
-/
import Derived.Test.YtibbenhplmmmiaaGreatDoorDArith
import Derived.Laws.IdiomStrings
namespace Go.Proofs.YtibbenhplmmmiaaGreatDoor
open Go.RowKit
attribute [local go_sem] cell?_more frozen?_more setCell_more more_lt more_more more_drew more_drewN setCell_drewN alloc_drewN

/-- The digits of a number, the first one first. -/
def digs (u : Nat) : List UInt8 := if h : u < 10 then [UInt8.ofNat (48 + u)] else digs (u / 10) ++ [UInt8.ofNat (48 + u % 10)]
  termination_by u
  decreasing_by omega
theorem digs_small (u : Nat) (h : u < 10) : digs u = [UInt8.ofNat (48 + u)] := by rw [digs, dif_pos h]
theorem digs_big (u : Nat) (h : ¬ u < 10) : digs u = digs (u / 10) ++ [UInt8.ofNat (48 + u % 10)] := by rw [digs, dif_neg h]

theorem digs_len (k : Nat) : ∀ u, u < 10 ^ (k + 1) → (digs u).length ≤ k + 1 := by
  induction k with
  | zero => intro u h; rw [digs_small u (by simpa using h)]; simp
  | succ k ih =>
    intro u h
    by_cases h9 : u < 10
    · rw [digs_small u h9]; simp
    · rw [digs_big u h9, List.length_append]
      have := ih (u / 10) (by rw [Nat.pow_succ] at h; omega)
      simp; omega
theorem ba_app (a b : List UInt8) : (⟨a.toArray⟩ : ByteArray) ++ ⟨b.toArray⟩ = ⟨(a ++ b).toArray⟩ := by
  apply ByteArray.ext
  simp
theorem ba_cons (y : UInt8) (t : List UInt8) : (⟨#[y]⟩ : ByteArray) ++ ⟨t.toArray⟩ = ⟨(y :: t).toArray⟩ := ba_app [y] t

/-- One sign as a text. -/
theorem str_one (V : World) (n : Nat) (y : UInt8) : (convert 36 9 (.slice (some ⟨V.heap.size, 0, none⟩) 1 1)).run Tryz.prog ((V.alloc (.cells #[.int .u8 (y.toNat : Int)] 5)).drewN n) = .ok (.string ⟨#[y]⟩) ((V.alloc (.cells #[.int .u8 (y.toNat : Int)] 5)).drewN n) := by
  refine run_convert_bytes_back _ 36 9 5 ⟨V.heap.size, 0, none⟩ 1 [y] Tryz.underlying36 Tryz.underlying5 Tryz.underlying9 fun j hj => ?_
  rw [Addr.add_lit]
  match j, hj with
  | 0, _ => rw [World.cell?_drewN, World.cell?_alloc_at _ _ _ _ rfl]; rfl

set_option maxHeartbeats 2000000 in
theorem rdigits_any (u : Nat) (w : World) (hu : u < 18446744073709551616) :
    Calls Tryz.prog 90 #[.int .u64 (u : Int)] w fun e w' => e = .returned (.string ⟨(digs u).toArray⟩) ∧ Grew w w' := by
  have HU : Hid (u < 18446744073709551616) := hu
  have HLEN : Hid ((digs u).length ≤ 20) := digs_len 19 u (Nat.lt_of_lt_of_le hu (by decide))
  clear hu
  have C := str_one
  go_enter Tryz.func90, Tryz.ntmps90
  go_wp2_with fail
  go_loopw [0, 3] (fun x s wr => ∃ (v : Nat) (t : List UInt8) (l : List Obj) (n : Nat), x = .int .u64 (v : Int) ∧ s = .string ⟨t.toArray⟩ ∧ v ≤ u ∧ Hid (digs v ++ t = digs u) ∧ wr = (more w l).drewN n) (fun x _ _ => (intOf x).toNat)
  case atStart => exact ⟨u, [], [], 0, rfl, rfl, Nat.le_refl _, by show digs u ++ [] = digs u; simp, rfl⟩
  case round =>
    obtain ⟨v, t, l, n, rfl, rfl, hv, hd, rfl⟩ := hrel
    have hT : ¬ 9223372036854775807 < 1 + t.length := by
      have h1 := HLEN.out
      rw [← hd.out, List.length_append] at h1
      omega
    by_cases h9 : v < 10
    · have hi : ¬ (9 : Int) < (v : Int) := by omega
      obtain ⟨y, hy⟩ : ∃ y : UInt8, y = UInt8.ofNat (48 + v) := ⟨_, rfl⟩
      have e1 : IntKind.u64.wrap (48 + (v : Int)) = 48 + (v : Int) := by rw [IntKind.wrap_u64]; omega
      have e2 : IntKind.u8.wrap (48 + (v : Int)) = (y.toNat : Int) := by rw [IntKind.wrap_u8, hy, UInt8.toNat_ofNat']; omega
      have HD : Hid (digs u = y :: t) := by show digs u = y :: t; rw [← hd.out, digs_small v h9, hy]; rfl
      clear hy h9 hd
      go_wp2_with fail
      go_ret
      refine ⟨?_, (by repeat (first | exact Grew.refl _ | apply Grew.drew | apply Grew.drewN | apply Grew.alloc | apply Grew.more))⟩
      rw [HD.out, ba_cons]; rfl
    · have hi : (9 : Int) < (v : Int) := by omega
      obtain ⟨y, hy⟩ : ∃ y : UInt8, y = UInt8.ofNat (48 + v % 10) := ⟨_, rfl⟩
      obtain ⟨r, hr⟩ : ∃ r, r = v % 10 := ⟨_, rfl⟩
      obtain ⟨q, hq⟩ : ∃ q, q = v / 10 := ⟨_, rfl⟩
      have e0 : (v : Int) % 10 = (r : Int) := by omega
      have e1 : IntKind.u64.wrap (48 + (r : Int)) = 48 + (r : Int) := by rw [IntKind.wrap_u64]; omega
      have e2 : IntKind.u8.wrap (48 + (r : Int)) = (y.toNat : Int) := by rw [IntKind.wrap_u8, hy, UInt8.toNat_ofNat']; omega
      have e3 : (v : Int) / 10 = (q : Int) := by omega
      have e4 : IntKind.u64.wrap (q : Int) = (q : Int) := by have := HU.out; rw [IntKind.wrap_u64]; omega
      have HQ : Hid (q < v ∧ q ≤ u) := ⟨by omega, by omega⟩
      have HD : Hid (digs q ++ (y :: t) = digs u) := by show digs q ++ (y :: t) = digs u; rw [← hd.out, digs_big v (by omega), hq, hy]; simp
      clear hy hd hr hq h9
      go_wp2_with fail
      go_roundw
      case rel => exact ⟨q, y :: t, l ++ [_], n, rfl, congrArg Value.string (ba_cons y t), HQ.out.2, HD, by rw [more_snoc]⟩
      case measure => simp [intOf]; exact HQ.out.1
end Go.Proofs.YtibbenhplmmmiaaGreatDoor
