/-
  The document's Put, and its Key of what is no row.
-/
import Derived.Test.YtafmchgncahafaaGreatDoorMHVOrd1
import Derived.Test.YtafmchgncahafaaGreatDoorVRPut
namespace Go.Proofs.YtafmchgncahafaaGreatDoor.By
open Go.RowKit
attribute [local go_sem] cell?_more frozen?_more setCell_more more_lt more_more more_drew more_drewN setCell_drewN alloc_drewN

theorem ck_len {l : List Va} (hE : ckE l = 0) : l.length ≤ 64 := by
  unfold ckE at hE
  split at hE
  · omega
  · omega
theorem ck_all {l : List Va} (hE : ckE l = 0) : ∀ v ∈ l, vr v = true := by
  have hlen := ck_len hE
  unfold ckE at hE
  rw [if_neg (by omega)] at hE
  split at hE
  · rename_i h; exact fun v hv => List.all_eq_true.1 h v hv
  · omega
set_option maxHeartbeats 1000000 in
theorem rput_good (ao : Option Addr) (cap : Nat) (l : List Va) (w : World) (hv : Vs w ao l) (hE : ckE l = 0) (hin : ∀ v ∈ l, vin v) :
    Calls Tryz.prog 7 #[.slice ao l.length cap] w fun e w' => ∃ v', e = .returned (.tuple #[v', .int .i64 0]) ∧ Own w' w.heap.size v' (numBytes (l.length : Int) ++ many vbytes l) ∧ Below w.heap.size w w' := by
  have hlen := ck_len hE
  have hall := ck_all hE
  have RW := rrow_any ao cap l w hv (by omega)
  have hc : (ckE l == 0) = true := by simpa using hE
  rw [hc] at RW
  have hb : ¬ (64 : Int) < (l.length : Int) := by omega
  go_enter Tryz.func7, Tryz.ntmps7
  go_wp2_with fail
  refine RW.mono ?_
  rintro e w1 ⟨rfl, b1⟩
  have s1 := b1.size
  go_wp2_with fail
  refine (rbytes_any ao cap w1.heap.size l w1 rfl (hv.later b1) hlen hall hin).mono ?_
  rintro e w2 ⟨v, rfl, O2, b2⟩
  go_wp2
  refine bodyPost_ret_by (v := .tuple #[v, .int .i64 0]) ?_ rfl ⟨v, rfl, Own.more O2 s1, below_trans b1 b2⟩
  simp [results, Tryz.results7, go_sem]
set_option maxHeartbeats 1000000 in
theorem rput_bad (ao : Option Addr) (cap : Nat) (l : List Va) (w : World) (hv : Vs w ao l) (hl : l.length ≤ 9223372036854775806) (hE : ckE l ≠ 0) :
    Calls Tryz.prog 7 #[.slice ao l.length cap] w fun e w' => e = .returned (.tuple #[.slice none 0 0, .int .i64 (ckE l)]) ∧ Below w.heap.size w w' := by
  have RW := rrow_any ao cap l w hv hl
  have hc : (ckE l == 0) = false := by simpa using hE
  rw [hc] at RW
  by_cases hb : 64 < l.length
  · have hb' : (64 : Int) < (l.length : Int) := by omega
    have h6 : ckE l = 6 := by unfold ckE; rw [if_pos hb]
    rw [h6]
    go_enter Tryz.func7, Tryz.ntmps7
    go_wp2
    refine bodyPost_ret_by (v := .tuple #[.slice none 0 0, .int .i64 6]) ?_ rfl ⟨rfl, Below.refl _ _⟩
    simp [results, Tryz.results7, go_sem]
  · have hb' : ¬ (64 : Int) < (l.length : Int) := by omega
    have h1 : ckE l = 1 := by
      unfold ckE at hE ⊢
      rw [if_neg hb] at hE ⊢
      split at hE
      · exact absurd rfl hE
      · rename_i h; rw [if_neg h]
    rw [h1]
    go_enter Tryz.func7, Tryz.ntmps7
    go_wp2_with fail
    refine RW.mono ?_
    rintro e w1 ⟨rfl, b1⟩
    go_wp2
    refine bodyPost_ret_by (v := .tuple #[.slice none 0 0, .int .i64 1]) ?_ rfl ⟨rfl, b1⟩
    simp [results, Tryz.results7, go_sem]
set_option maxHeartbeats 1000000 in
theorem rkey_bad (ao : Option Addr) (cap : Nat) (l : List Va) (w : World) (hv : Vs w ao l) (hl : l.length ≤ 9223372036854775806) (hE : ckE l ≠ 0) :
    Calls Tryz.prog 11 #[.slice ao l.length cap] w fun e w' => e = .returned (.tuple #[.string ⟨#[]⟩, .int .i64 (ckE l)]) ∧ Below w.heap.size w w' := by
  have RW := rrow_any ao cap l w hv hl
  have hc : (ckE l == 0) = false := by simpa using hE
  rw [hc] at RW
  by_cases hb : 64 < l.length
  · have hb' : (64 : Int) < (l.length : Int) := by omega
    have h6 : ckE l = 6 := by unfold ckE; rw [if_pos hb]
    rw [h6]
    go_enter Tryz.func11, Tryz.ntmps11
    go_wp2
    refine bodyPost_ret_by (v := .tuple #[.string ⟨#[]⟩, .int .i64 6]) ?_ rfl ⟨rfl, Below.refl _ _⟩
    simp [results, Tryz.results11, go_sem]
  · have hb' : ¬ (64 : Int) < (l.length : Int) := by omega
    have h1 : ckE l = 1 := by
      unfold ckE at hE ⊢
      rw [if_neg hb] at hE ⊢
      split at hE
      · exact absurd rfl hE
      · rename_i h; rw [if_neg h]
    rw [h1]
    go_enter Tryz.func11, Tryz.ntmps11
    go_wp2_with fail
    refine RW.mono ?_
    rintro e w1 ⟨rfl, b1⟩
    go_wp2
    refine bodyPost_ret_by (v := .tuple #[.string ⟨#[]⟩, .int .i64 1]) ?_ rfl ⟨rfl, b1⟩
    simp [results, Tryz.results11, go_sem]
end Go.Proofs.YtafmchgncahafaaGreatDoor.By
