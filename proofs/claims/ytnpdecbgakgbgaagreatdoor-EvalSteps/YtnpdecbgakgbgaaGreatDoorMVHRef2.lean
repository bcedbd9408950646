/-
  The document's answers for eval: decs.
  The document's answers for points: nearest and parts: for every two points of which the second is not nought.
-/
import Derived.Test.YtnpdecbgakgbgaaGreatDoorQR1
import Derived.Test.YtnpdecbgakgbgaaGreatDoorMAHDiv2
import Derived.Test.YtnpdecbgakgbgaaGreatDoorDRef8
import Derived.Test.YtnpdecbgakgbgaaGreatDoorMTDRefC
import Derived.Test.YtnpdecbgakgbgaaGreatDoorDRefD
import Derived.Test.YtnpdecbgakgbgaaGreatDoorMPHRef4
import Derived.Test.YtnpdecbgakgbgaaGreatDoorMnDDivP
namespace Go.Proofs.YtnpdecbgakgbgaaGreatDoor
open Go.RowKit Go.Shelf
attribute [local go_sem] cell?_more frozen?_more setCell_more more_lt more_more more_drew more_drewN setCell_drewN alloc_drewN

theorem rq_1 (z : Int) : rq z 1 = z := by
  have h1 : rnd z.natAbs 1 = z.natAbs := by unfold rnd; rw [if_neg (by omega)]; omega
  unfold rq
  rw [show (1 : Int).natAbs = 1 from rfl, h1]
  by_cases h : z < 0
  · rw [decide_eq_true h]
    show sval true _ = _
    simp [sval]; omega
  · rw [decide_eq_false h]
    show sval false _ = _
    simp [sval]; omega
theorem rmul7 (a b : Va) (W : World) (ra : rightS a.m = true) (rb : rightS b.m = true) (va : vin a) (vb : vin b) : Calls Tryz.prog 178 #[dv a.n a.m, dv b.n b.m] W fun e w' => e = .returned (dres (rq (a.n * b.n) (10 ^ (a.m + b.m - psc a.m b.m).toNat : Nat)) (psc a.m b.m)) ∧ Grew W w' := by
  rcases psc_or a.m b.m with ⟨h1, h2⟩ | ⟨h1, h2⟩
  · rw [h1, Int.sub_self]
    have := rmul_low a.n a.m b.n b.m W ra rb h2 va.1.1 va.1.2 vb.1.1 vb.1.2
    rw [show (rq (a.n * b.n) ((10 ^ (0 : Int).toNat : Nat) : Int)) = a.n * b.n from rq_1 _]
    exact this
  · rw [h1]
    exact rmul_high a.n a.m b.n b.m (a.m + b.m - 6).toNat W ra rb h2 (by omega) va.1.1 va.1.2 vb.1.1 vb.1.2

set_option maxHeartbeats 2000000 in
theorem rdecs7_any (op : Int) (a b : Va) (w : World) (h1 : 6 ≤ op) (h2 : op ≤ 10) (ha : 0 ≤ a.m ∧ a.m ≤ 6) (hb : 0 ≤ b.m ∧ b.m ≤ 6) (va : vin a) (vb : vin b) :
    Calls Tryz.prog 121 #[.int .i64 op, dv a.n a.m, dv b.n b.m] w fun e w' => e = .returned (rs (numsR op a b)) ∧ Grew w w' := by
  have ra := (rightS_iff a.m).2 ha
  have rb := (rightS_iff b.m).2 hb
  unfold numsR decR
  by_cases h9 : op = 9
  · subst h9
    clear h1 h2
    rw [if_pos rfl]
    have C : ∀ W, Calls Tryz.prog 180 #[dv a.n a.m, dv b.n b.m] W fun e w' => e = .returned (.tuple #[dv _ _, .int .i64 _]) ∧ Grew W w' := fun W => radd_good a.n a.m b.n b.m _ W ra rb (gsc_or a.m b.m) va.1.1 va.1.2 vb.1.1 vb.1.2
    have H := fun u s x W => rofDec_any u s x W
    clear ha hb ra rb va vb
    go_enter Tryz.func121, Tryz.ntmps121
    go_wp2_with (first
      | (go_at_call 180; refine (C _).mono ?_; rintro e w1 ⟨rfl, os1, n1, rfl⟩)
      | (go_at_call 46; refine (H _ _ _ _).mono ?_; rintro e w1 ⟨rfl, os2, n2, rfl⟩))
    refine bodyPost_ret_by (v := rs _) ?_ rfl ⟨rfl, ?_⟩
    · simp [results, Tryz.results121, go_sem]
    · repeat (first | assumption | exact Grew.refl _ | apply Grew.drew | apply Grew.drewN | apply Grew.alloc | apply Grew.more)
  by_cases h10 : op = 10
  · subst h10
    clear h1 h2
    rw [if_neg (by decide), if_pos rfl]
    have C : ∀ W, Calls Tryz.prog 100 #[dv a.n a.m, dv b.n b.m] W fun e w' => e = .returned (.tuple #[dv _ _, .int .i64 _]) ∧ Grew W w' := fun W => rsub_good a.n a.m b.n b.m _ W ra rb (gsc_or a.m b.m) va.1.1 va.1.2 vb.1.1 vb.1.2
    have H := fun u s x W => rofDec_any u s x W
    clear ha hb ra rb va vb
    go_enter Tryz.func121, Tryz.ntmps121
    go_wp2_with (first
      | (go_at_call 100; refine (C _).mono ?_; rintro e w1 ⟨rfl, os1, n1, rfl⟩)
      | (go_at_call 46; refine (H _ _ _ _).mono ?_; rintro e w1 ⟨rfl, os2, n2, rfl⟩))
    refine bodyPost_ret_by (v := rs _) ?_ rfl ⟨rfl, ?_⟩
    · simp [results, Tryz.results121, go_sem]
    · repeat (first | assumption | exact Grew.refl _ | apply Grew.drew | apply Grew.drewN | apply Grew.alloc | apply Grew.more)
  by_cases h6 : op = 6
  · subst h6
    clear h1 h2
    rw [if_neg (by decide), if_neg (by decide), if_pos rfl]
    have C : ∀ W, Calls Tryz.prog 178 #[dv a.n a.m, dv b.n b.m] W fun e w' => e = .returned (.tuple #[dv _ _, .int .i64 _]) ∧ Grew W w' := fun W => rmul7 a b W ra rb va vb
    have H := fun u s x W => rofDec_any u s x W
    clear ha hb ra rb va vb
    go_enter Tryz.func121, Tryz.ntmps121
    go_wp2_with (first
      | (go_at_call 178; refine (C _).mono ?_; rintro e w1 ⟨rfl, os1, n1, rfl⟩)
      | (go_at_call 46; refine (H _ _ _ _).mono ?_; rintro e w1 ⟨rfl, os2, n2, rfl⟩))
    refine bodyPost_ret_by (v := rs _) ?_ rfl ⟨rfl, ?_⟩
    · simp [results, Tryz.results121, go_sem]
    · repeat (first | assumption | exact Grew.refl _ | apply Grew.drew | apply Grew.drewN | apply Grew.alloc | apply Grew.more)
  by_cases h7 : op = 7
  · subst h7
    clear h1 h2
    rw [if_neg (by decide), if_neg (by decide), if_neg (by decide), if_pos rfl]
    by_cases hz : b.n = 0
    · rw [if_pos hz, hz]
      show Calls _ _ _ _ fun e w' => e = .returned (rs (exactR 0 0 33)) ∧ _
      have C : ∀ W, Calls Tryz.prog 179 #[dv a.n a.m, dv 0 b.m, .int .i64 6] W fun e w' => e = .returned (.tuple #[dv _ _, .int .i64 _]) ∧ Grew W w' := fun W => rdiv_zero a.n a.m b.m 6 W ra rb rfl
      have H := fun u s x W => rofDec_any u s x W
      clear ha hb ra rb va vb
      go_enter Tryz.func121, Tryz.ntmps121
      go_wp2_with (first
        | (go_at_call 179; refine (C _).mono ?_; rintro e w1 ⟨rfl, os1, n1, rfl⟩)
        | (go_at_call 46; refine (H _ _ _ _).mono ?_; rintro e w1 ⟨rfl, os2, n2, rfl⟩))
      refine bodyPost_ret_by (v := rs _) ?_ rfl ⟨rfl, ?_⟩
      · simp [results, Tryz.results121, go_sem]
      · repeat (first | assumption | exact Grew.refl _ | apply Grew.drew | apply Grew.drewN | apply Grew.alloc | apply Grew.more)
    · rw [if_neg hz]
      have C : ∀ W, Calls Tryz.prog 179 #[dv a.n a.m, dv b.n b.m, .int .i64 6] W fun e w' => e = .returned (.tuple #[dv _ _, .int .i64 _]) ∧ Grew W w' := fun W => rdiv_good a.n a.m b.n b.m 6 W ra rb rfl va.1.1 va.1.2 vb.1.1 vb.1.2 hz
      have H := fun u s x W => rofDec_any u s x W
      clear ha hb ra rb va vb
      go_enter Tryz.func121, Tryz.ntmps121
      go_wp2_with (first
        | (go_at_call 179; refine (C _).mono ?_; rintro e w1 ⟨rfl, os1, n1, rfl⟩)
        | (go_at_call 46; refine (H _ _ _ _).mono ?_; rintro e w1 ⟨rfl, os2, n2, rfl⟩))
      refine bodyPost_ret_by (v := rs _) ?_ rfl ⟨rfl, ?_⟩
      · simp [results, Tryz.results121, go_sem]
      · repeat (first | assumption | exact Grew.refl _ | apply Grew.drew | apply Grew.drewN | apply Grew.alloc | apply Grew.more)
  obtain rfl : op = 8 := by omega
  rw [if_neg h9, if_neg h10, if_neg h6, if_neg h7]
  show Calls _ _ _ _ fun e w' => e = .returned (rs (nul, 31)) ∧ _
  clear ha hb ra rb va vb h1 h2 h9 h10 h6 h7
  go_enter Tryz.func121, Tryz.ntmps121
  go_wp2
  refine bodyPost_ret_by (v := rs (nul, 31)) ?_ rfl ⟨rfl, ?_⟩
  · simp [results, Tryz.results121, go_sem, nul]
  · repeat (first | assumption | exact Grew.refl _ | apply Grew.drew | apply Grew.drewN | apply Grew.alloc | apply Grew.more)
end Go.Proofs.YtnpdecbgakgbgaaGreatDoor

namespace Go.Proofs.YtnpdecbgakgbgaaGreatDoor.Ga
open Go.RowKit
attribute [local go_sem] cell?_more frozen?_more setCell_more more_lt more_more more_drew more_drewN setCell_drewN alloc_drewN
attribute [local go_sem high] cellMA frozenMA setMA cellMAM frozenMAM setMAM cellMAA frozenMAA setMAA cellMAAM frozenMAAM setMAAM cellMAMA frozenMAMA setMAMA cellMAMAM frozenMAMAM setMAMAM cellMAMAMA frozenMAMAMA setMAMAMA cellMAMAMAM frozenMAMAMAM setMAMAMAM

theorem tdiv_floor (n d : Int) (hd : 0 < d) : (n.tmod d < 0 ∧ n.tdiv d - 1 = n / d) ∨ (¬ n.tmod d < 0 ∧ n.tdiv d = n / d) := by
  have h1 := Int.mul_tdiv_add_tmod n d
  have h2 := Int.mul_ediv_add_emod n d
  have h3 := Int.emod_nonneg n (show d ≠ 0 by omega)
  have h4 := Int.emod_lt_of_pos n hd
  have h5 := Int.tmod_lt_of_pos n hd
  have h6 := Int.lt_tmod_of_pos n hd
  by_cases h : n.tmod d < 0
  · refine Or.inl ⟨h, ?_⟩
    have e : d * (n.tdiv d - 1 - n / d) = d * n.tdiv d - d - d * (n / d) := by grind
    rcases Int.lt_trichotomy (n.tdiv d - 1 - n / d) 0 with k | k | k
    · have : d * (n.tdiv d - 1 - n / d) ≤ d * (-1) := Int.mul_le_mul_of_nonneg_left (by omega) (by omega)
      omega
    · omega
    · have : d * 1 ≤ d * (n.tdiv d - 1 - n / d) := Int.mul_le_mul_of_nonneg_left (by omega) (by omega)
      omega
  · refine Or.inr ⟨h, ?_⟩
    have e : d * (n.tdiv d - n / d) = d * n.tdiv d - d * (n / d) := by grind
    rcases Int.lt_trichotomy (n.tdiv d - n / d) 0 with k | k | k
    · have : d * (n.tdiv d - n / d) ≤ d * (-1) := Int.mul_le_mul_of_nonneg_left (by omega) (by omega)
      omega
    · omega
    · have : d * 1 ≤ d * (n.tdiv d - n / d) := Int.mul_le_mul_of_nonneg_left (by omega) (by omega)
      omega

theorem rnearest_any (a b : Int) (w : World) (hb : 0 < b) (hb2 : b < 281474976710656) (ha : -281474976710656 < a ∧ a < 281474976710656) :
    Calls Tryz.prog 230 #[.int .i64 a, .int .i64 b] w fun e w' => e = .returned (.int .i64 (nst a b)) ∧ Grew w w' := by
  have e1 : IntKind.i64.wrap (2 * a) = 2 * a := by rw [IntKind.wrap_i64]; omega
  have e2 : IntKind.i64.wrap (2 * a + b) = 2 * a + b := by rw [IntKind.wrap_i64]; omega
  have e3 : IntKind.i64.wrap (2 * b) = 2 * b := by rw [IntKind.wrap_i64]; omega
  have hq : nst a b = (2 * a + b) / (2 * b) := rfl
  have bq : -1125899906842624 < (2 * a + b) / (2 * b) ∧ (2 * a + b) / (2 * b) < 1125899906842624 := by
    obtain ⟨h1, h2⟩ := nst_bd a b hb
    rw [hq] at h1 h2
    generalize (2 * a + b) / (2 * b) = q at *
    constructor
    · rcases Int.lt_or_le (-1125899906842624) q with k | k
      · exact k
      · have : b * q ≤ b * (-1125899906842624) := Int.mul_le_mul_of_nonneg_left k (by omega)
        omega
    · rcases Int.lt_or_le q 1125899906842624 with k | k
      · exact k
      · have : b * 1125899906842624 ≤ b * q := Int.mul_le_mul_of_nonneg_left k (by omega)
        omega
  rw [hq]
  have hz : ¬ 2 * b = 0 := by omega
  have hf := tdiv_floor (2 * a + b) (2 * b) (by omega)
  generalize hqq : (2 * a + b) / (2 * b) = q at *
  generalize hn : 2 * a + b = n at *
  generalize hd : 2 * b = d at *
  generalize ht : n.tdiv d = t at *
  generalize hm : n.tmod d = m at *
  clear hq hqq hb hb2 ha
  rcases hf with ⟨h1, h2⟩ | ⟨h1, h2⟩
  · have e4 : IntKind.i64.wrap t = t := by rw [IntKind.wrap_i64]; omega
    have e5 : IntKind.i64.wrap (t - 1) = q := by rw [IntKind.wrap_i64]; omega
    clear h2 bq
    go_enter Tryz.func230, Tryz.ntmps230
    go_wp2
    all_goals go_ret
    all_goals exact ⟨rfl, by repeat (first | exact Grew.refl _ | apply Grew.drew | apply Grew.drewN | apply Grew.alloc | apply Grew.more)⟩
  · have e4 : IntKind.i64.wrap t = q := by rw [IntKind.wrap_i64]; omega
    clear h2 bq
    go_enter Tryz.func230, Tryz.ntmps230
    go_wp2
    all_goals go_ret
    all_goals exact ⟨rfl, by repeat (first | exact Grew.refl _ | apply Grew.drew | apply Grew.drewN | apply Grew.alloc | apply Grew.more)⟩

theorem size_blank3 (a b c : Array Value) (t1 t2 t3 : TypeId) (l : List Obj) (w : World) : (more (((w.alloc (Obj.cells a t1)).alloc (Obj.cells b t2)).alloc (Obj.cells c t3)) l).heap.size = (more (((w.alloc blank).alloc blank).alloc blank) l).heap.size := by
  rw [more_count, more_count]; simp
theorem size_blank4 (a b c d : Array Value) (t1 t2 t3 t4 : TypeId) (l : List Obj) (w : World) : (more ((((w.alloc (Obj.cells a t1)).alloc (Obj.cells b t2)).alloc (Obj.cells c t3)).alloc (Obj.cells d t4)) l).heap.size = (more ((((w.alloc blank).alloc blank).alloc blank).alloc blank) l).heap.size := by
  rw [more_count, more_count]; simp

attribute [local go_sem high] size_blank4
set_option maxHeartbeats 4000000 in
theorem rparts_core (x y u v nn A1 A2 A3 A4 o1 o2 c1 c2 B1 B2 B3 B4 B5 B6 r1 r2 : Int) (w : World)
    (Rn : ∀ W, Calls Tryz.prog 74 #[pv u v] W fun e w' => e = .returned (.int .i64 nn) ∧ Grew W w')
    (N1 : ∀ W, Calls Tryz.prog 230 #[.int .i64 o1, .int .i64 nn] W fun e w' => e = .returned (.int .i64 c1) ∧ Grew W w')
    (N2 : ∀ W, Calls Tryz.prog 230 #[.int .i64 o2, .int .i64 nn] W fun e w' => e = .returned (.int .i64 c2) ∧ Grew W w')
    (e1 : IntKind.i64.wrap (x * u) = A1) (e2 : IntKind.i64.wrap (y * v) = A2) (e3 : IntKind.i64.wrap (A1 + A2) = o1) (e4 : IntKind.i64.wrap (y * u) = A3) (e5 : IntKind.i64.wrap (x * v) = A4) (e6 : IntKind.i64.wrap (A3 - A4) = o2)
    (e7 : IntKind.i64.wrap (u * c1) = B1) (e8 : IntKind.i64.wrap (v * c2) = B2) (e9 : IntKind.i64.wrap (B1 - B2) = B3) (e10 : IntKind.i64.wrap (x - B3) = r1)
    (e11 : IntKind.i64.wrap (u * c2) = B4) (e12 : IntKind.i64.wrap (v * c1) = B5) (e13 : IntKind.i64.wrap (B4 + B5) = B6) (e14 : IntKind.i64.wrap (y - B6) = r2) :
    Calls Tryz.prog 217 #[pv x y, pv u v] w fun e w' => e = .returned (.tuple #[pv c1 c2, pv r1 r2]) ∧ Grew w w' := by
  go_enter Tryz.func217, Tryz.ntmps217
  go_upto_region 2 with (go_at_call 74; refine (Rn _).mono ?_; rintro e w' ⟨rfl, os, n, rfl⟩)
  go_cut [7] from 8 (fun s wx => ∃ (l1 l2 : List Obj) (n : Nat), s = .pointer (some ⟨(more ((((w.alloc blank).alloc blank).alloc blank).alloc blank) l1).heap.size, 0, none⟩) ∧
    wx = (more ((more ((((w.alloc (Obj.cells #[Value.int IntKind.i64 x, Value.int IntKind.i64 y] 79)).alloc (Obj.cells #[Value.int IntKind.i64 u, Value.int IntKind.i64 v] 79)).alloc (Obj.cells #[Value.int IntKind.i64 0, Value.int IntKind.i64 0] 79)).alloc (Obj.cells #[Value.int IntKind.i64 0, Value.int IntKind.i64 0] 79)) l1).alloc (Obj.cells #[Value.int IntKind.i64 c1, Value.int IntKind.i64 c2] 79)) l2).drewN n)
  case first =>
    clear e7 e8 e9 e10 e11 e12 e13 e14
    go_region_held2 (fun W => W.cell? ⟨w.heap.size, 0, none⟩ = some (.int .i64 x) ∧ W.cell? ⟨w.heap.size, 1, none⟩ = some (.int .i64 y) ∧ W.cell? ⟨w.heap.size + 1, 0, none⟩ = some (.int .i64 u) ∧ W.cell? ⟨w.heap.size + 1, 1, none⟩ = some (.int .i64 v)) (simp (maxDischargeDepth := 12) [go_sem])
      ((first
        | (go_at_call_of 230 (Value.int IntKind.i64 o1); refine (N1 _).mono ?_; rintro e w' ⟨rfl, os1, n1, rfl⟩)
        | (go_at_call_of 230 (Value.int IntKind.i64 o2); refine (N2 _).mono ?_; rintro e w' ⟨rfl, os2, n2, rfl⟩)))
    all_goals go_wp2_with fail
    all_goals go_meet
    all_goals first | exact ⟨_, [], _, rfl, rfl⟩ | exact ⟨_, _, _, rfl, rfl⟩
  obtain ⟨l1, l2, n, rfl, rfl⟩ := hcut
  clear N1 N2 e1 e2 e3 e4 e5 e6
  go_upto_region 3 with fail
  go_region_held2 (fun W => W.cell? ⟨w.heap.size, 0, none⟩ = some (.int .i64 x) ∧ W.cell? ⟨w.heap.size, 1, none⟩ = some (.int .i64 y) ∧ W.cell? ⟨w.heap.size + 1, 0, none⟩ = some (.int .i64 u) ∧ W.cell? ⟨w.heap.size + 1, 1, none⟩ = some (.int .i64 v) ∧
    W.cell? ⟨(more ((((w.alloc blank).alloc blank).alloc blank).alloc blank) l1).heap.size, 0, none⟩ = some (.int .i64 c1) ∧ W.cell? ⟨(more ((((w.alloc blank).alloc blank).alloc blank).alloc blank) l1).heap.size, 1, none⟩ = some (.int .i64 c2)) (simp (maxDischargeDepth := 12) [go_sem]) (fail)
  all_goals go_wp2_with fail
  all_goals refine bodyPost_ret_by (v := .tuple #[pv c1 c2, pv r1 r2]) ?_ rfl ⟨rfl, ?_⟩
  all_goals first
    | (simp [results, Tryz.results217, go_sem]; done)
    | (repeat (first | exact Grew.refl _ | apply Grew.drew | apply Grew.drewN | apply Grew.alloc | apply Grew.more))

/-- The document's quotient and rest. -/
theorem rparts_any (x y u v : Int) (w : World) (ha : ok2 x y = true) (hb : ok2 u v = true) (hn : 0 < u * u + v * v) :
    Calls Tryz.prog 217 #[pv x y, pv u v] w fun e w' => e = .returned (.tuple #[pv (qX x y u v) (qY x y u v), pv (rX x y u v) (rY x y u v)]) ∧ Grew w w' := by
  have Rn := fun W => rnorm_any u v W
  rw [show nrm u v = u * u + v * v by simp [nrm, hb]] at Rn
  rw [ok2_iff] at ha hb
  have hx : -1048576 ≤ x ∧ x ≤ 1048576 := ⟨ha.1, ha.2.1⟩
  have hy : -1048576 ≤ y ∧ y ≤ 1048576 := ⟨ha.2.2.1, ha.2.2.2⟩
  have hu : -1048576 ≤ u ∧ u ≤ 1048576 := ⟨hb.1, hb.2.1⟩
  have hv : -1048576 ≤ v ∧ v ≤ 1048576 := ⟨hb.2.2.1, hb.2.2.2⟩
  have hq := quo_ok x y u v hx hy hn
  have hr := rest_ok x y u v hu hv hn
  have m1 := mul_bd (A := 1048576) (B := 1048576) (by decide) hx.1 hx.2 hu.1 hu.2
  have m2 := mul_bd (A := 1048576) (B := 1048576) (by decide) hy.1 hy.2 hv.1 hv.2
  have m3 := mul_bd (A := 1048576) (B := 1048576) (by decide) hy.1 hy.2 hu.1 hu.2
  have m4 := mul_bd (A := 1048576) (B := 1048576) (by decide) hx.1 hx.2 hv.1 hv.2
  have m5 := mul_bd (A := 1048576) (B := 1048576) (by decide) hu.1 hu.2 hu.1 hu.2
  have m6 := mul_bd (A := 1048576) (B := 1048576) (by decide) hv.1 hv.2 hv.1 hv.2
  have m7 := mul_bd (A := 1048576) (B := 1048576) (by decide) hu.1 hu.2 hq.1.1 hq.1.2
  have m8 := mul_bd (A := 1048576) (B := 1048576) (by decide) hv.1 hv.2 hq.2.1 hq.2.2
  have m9 := mul_bd (A := 1048576) (B := 1048576) (by decide) hu.1 hu.2 hq.2.1 hq.2.2
  have m10 := mul_bd (A := 1048576) (B := 1048576) (by decide) hv.1 hv.2 hq.1.1 hq.1.2
  have N1 := fun W => rnearest_any (x * u + y * v) (u * u + v * v) W hn (by omega) (by omega)
  have N2 := fun W => rnearest_any (y * u - x * v) (u * u + v * v) W hn (by omega) (by omega)
  have d1 : rX x y u v = x - (u * qX x y u v - v * qY x y u v) := rfl
  have d2 : rY x y u v = y - (u * qY x y u v + v * qX x y u v) := rfl
  rw [d1, d2]
  rw [d1, d2] at hr
  rw [show nst (x * u + y * v) (u * u + v * v) = qX x y u v from rfl] at N1
  rw [show nst (y * u - x * v) (u * u + v * v) = qY x y u v from rfl] at N2
  clear d1 d2 hn
  generalize qX x y u v = c1 at *
  generalize qY x y u v = c2 at *
  refine rparts_core x y u v _ (x * u) (y * v) (y * u) (x * v) _ _ c1 c2 (u * c1) (v * c2) (u * c1 - v * c2) (u * c2) (v * c1) (u * c2 + v * c1) _ _ w Rn N1 N2 ?_ ?_ ?_ ?_ ?_ ?_ ?_ ?_ ?_ ?_ ?_ ?_ ?_ ?_
  all_goals (clear Rn N1 N2; rw [IntKind.wrap_i64]; omega)
end Go.Proofs.YtnpdecbgakgbgaaGreatDoor.Ga
