/-
  The contracts of slices.Delete, slices.Clone and without, at entries and at nodes' pointers.
-/
import Derived.Test.YtmdembfnpmlmaaaTrF
import Derived.Deep.RegionHeld3
namespace Go.Proofs.Ytmdembfnpmlmaaa
open Go.RowKit Go.Lib

theorem infoE : (Try.prog.info? 65).map (fun i => (i.zero, i.size, i.bytes)) = some (some (.agg #[.string ⟨#[]⟩, .int .i64 0]), 2, 24) := by kernel_rfl

set_option maxHeartbeats 4000000 in
set_option maxRecDepth 100000 in
theorem deleteE_any (g n cap N i j : Nat) (xs : List Value) (h1 : ∀ v ∈ xs, v.oneCell' = true) (w : World) (h : w.ownsRow N 65 2 (.slice (some ⟨g, 0, none⟩) n cap) n xs) (hij : i < j) (hj : j ≤ n) :
    Calls Try.prog 53 #[.slice (some ⟨g, 0, none⟩) n cap, .int .i64 (i : Int), .int .i64 (j : Int)] w fun e w' => e = .returned (.slice (some ⟨g, 0, none⟩) (n - (j - i)) cap) ∧ w'.ownsRow N 65 2 (.slice (some ⟨g, 0, none⟩) (n - (j - i)) cap) (n - (j - i)) (xs.take (i * 2) ++ xs.drop (j * 2)) ∧ w.grownBy w' (some g) := by
  obtain ⟨i0, hi0, hz0, hz1, hz2⟩ := info_parts infoE
  obtain ⟨cur, hg, hnc, hcm, hcs, htake, hbase, hlt⟩ := own_cell h
  have hxl : xs.length = n * 2 := h.1
  unfold maxLen at hcm
  obtain ⟨news, hnews⟩ : ∃ news, news = xs.drop (j * 2) := ⟨_, rfl⟩
  have hnl : news.length = (n - j) * 2 := by rw [hnews, List.length_drop, hxl]; omega
  have hcell : ∀ t u, xs[t]? = some u → w.cell? ⟨g, t, none⟩ = some u := by
    intro t u hu
    rw [cell_of_row w g t cur 65 (0, 0) hg]
    rw [← htake, List.getElem?_take] at hu
    split at hu
    · simpa using hu
    · cases hu
  obtain ⟨A, hA, hsrc⟩ : ∃ A : Addr, (if cap = j then some (⟨g, 0, none⟩ : Addr) else some ⟨g, j * 2, none⟩) = some A ∧ Hid (∀ t u, news[t]? = some u → w.drew.cell? (A.add t) = some u) := by
    by_cases hc : cap = j
    · refine ⟨⟨g, 0, none⟩, by simp [hc], fun t u hu => ?_⟩
      have h0 : news.length = 0 := by rw [hnl]; omega
      rw [List.length_eq_zero_iff.1 h0] at hu
      simp at hu
    · refine ⟨⟨g, j * 2, none⟩, by simp [hc], fun t u hu => ?_⟩
      rw [hnews, List.getElem?_drop] at hu
      rw [Addr.add_lit]
      exact hcell _ _ hu
  have s1 : Hid (news.length = (n - j) * 2) := hnl
  have s2 : Hid (∀ u ∈ news, u.oneCell' = true) := fun u hu => h1 u (by rw [hnews] at hu; exact List.mem_of_mem_drop hu)
  have hfit : Hid (i * 2 + news.length ≤ cur.size) := by show _ ≤ _; rw [hnl, hcs]; omega
  obtain ⟨cur1, hc1⟩ : ∃ cur1, cur1 = (cur.toList.take (i * 2) ++ news ++ cur.toList.drop (i * 2 + news.length)).toArray := ⟨_, rfl⟩
  have hcl1 : cur1.toList.length = cur.size := by
    rw [hc1]
    have := hfit.out
    simp only [List.length_append, List.length_take, List.length_drop, Array.length_toList]
    omega
  have hcs1 : cur1.size = cap * 2 := by rw [← hcs, ← hcl1, Array.length_toList]
  obtain ⟨W1, hW1⟩ : ∃ W1, W1 = w.drew.setRow g cur1 := ⟨_, rfl⟩
  have hg1 : W1.heap[g]? = some (.cells cur1 65 (0, 0)) := by rw [hW1]; exact setRow_heap w.drew g cur cur1 65 _ hg
  have hcl := fun ty => run_clear_rowK (P := Try.prog) W1 62 ty 65 (.agg #[.string ⟨#[]⟩, .int .i64 0]) 2 g ((i + (n - j)) * 2) (n - (i + (n - j))) (cap - (i + (n - j))) cur1 65 Try.underlying62 i0 hi0 hz0 rfl (by decide) hg1 (by omega) (by rw [hcs1]; omega)
  obtain ⟨cur2, hc2⟩ : ∃ cur2, cur2 = (cur1.toList.take ((i + (n - j)) * 2) ++ (Builtin.zeroCells (.agg #[.string ⟨#[]⟩, .int .i64 0] : Value).cells (n - (i + (n - j)))).toList ++ cur1.toList.drop ((i + (n - j)) * 2 + (n - (i + (n - j))) * 2)).toArray := ⟨_, rfl⟩
  obtain ⟨W2, hW2⟩ : ∃ W2, W2 = W1.setRow g cur2 := ⟨_, rfl⟩
  rw [← hc2, ← hW2] at hcl
  have HCL : Hid (∀ ty, (Builtin.clear_ #[62] ty #[.slice (some ⟨g, (i + (n - j)) * 2, none⟩) (n - (i + (n - j))) (cap - (i + (n - j)))]).run Try.prog W1 = .ok (.tuple #[]) W2) := hcl
  have hfin : Hid (W2.ownsRow N 65 2 (.slice (some ⟨g, 0, none⟩) (i + (n - j)) cap) (i + (n - j)) (xs.take (i * 2) ++ news)) := by
    have hg2 : W2.heap[g]? = some (.cells cur2 65 (0, 0)) := by rw [hW2]; exact setRow_heap W1 g cur1 cur2 65 _ hg1
    have hzl : (Builtin.zeroCells (.agg #[.string ⟨#[]⟩, .int .i64 0] : Value).cells (n - (i + (n - j)))).toList.length = (n - (i + (n - j))) * 2 := by simp [Builtin.zeroCells, Value.cells]
    have := own_mk (base := N) (size := 2) (n := i + (n - j)) (cap := cap) hg2 hbase (by omega) (by unfold maxLen; omega) (by rw [hc2]; simp only [List.size_toArray, List.length_append, List.length_take, List.length_drop, hzl, hcl1, hcs]; omega)
    have e : List.take ((i + (n - j)) * 2) cur2.toList = xs.take (i * 2) ++ news := ?_
    · rw [e] at this; exact this
    rw [hc2]
    show List.take _ (_ ++ _ ++ _) = _
    rw [List.append_assoc, List.take_append_of_le_length (by rw [List.length_take, hcl1, hcs]; omega), List.take_take, Nat.min_self, hc1]
    show List.take _ (_ ++ _ ++ _) = _
    have hit : (cur.toList.take (i * 2)).length = i * 2 := by rw [List.length_take, Array.length_toList, hcs]; omega
    rw [List.take_append_of_le_length (by rw [List.length_append, hit, hnl]; omega), List.take_of_length_le (by rw [List.length_append, hit, hnl]; omega), ← htake, List.take_take, Nat.min_eq_left (by omega)]
  have hgr : Hid (w.grownBy W2 (some g)) := by
    have a0 : w.grownBy w.drew (some g) := ⟨rfl, rfl, rfl, Nat.le_refl _, fun _ _ _ => rfl⟩
    have a1 : w.drew.grownBy W1 (some g) := by rw [hW1]; exact grown_setRow _ _ _
    have a2 : W1.grownBy W2 (some g) := by rw [hW2]; exact grown_setRow _ _ _
    exact grown_trans (grown_trans a0 a1) a2
  have hW : Hid (W1 = w.drew.setRow g (cur.toList.take (i * 2) ++ news ++ cur.toList.drop (i * 2 + news.length)).toArray) := by rw [← hc1]; exact hW1
  have HG : Hid (w.heap[g]? = some (.cells cur 65 (0, 0))) := hg
  have hq1 : (i : Int) ≤ (cap : Int) := by omega
  have hq2 : (j : Int) ≤ (cap : Int) := by omega
  have hq3 : (i : Int) ≤ (j : Int) := by omega
  have hq4 : (j : Int) ≤ (n : Int) := by omega
  have hq5 : ((i : Int) == (j : Int)) = false := beq_eq_false_iff_ne.2 (by omega)
  have hq6 : ¬ cap = i + (n - j) := by omega
  have hq7 : ¬ n = i := by omega
  have hNW : Hid (news = xs.drop (j * 2)) := hnews
  clear h htake hcell hnl hcl1 hcs1 hW1 hg1 hcl hW2 hc1 hc2 hcs hg hxl h1 hnews hbase hlt
  have hA2 := hA
  have mixed : Try.prog.follows Departure.mixedOrders = true := by kernel_rfl
  go_enter Try.func53, Try.ntmps53
  go_wp2_with fail
  go_region_law_o (refine step_append_rowK rfl (.tmp 22) (.tmp 25) 62 rfl 65 i0 2 Try.underlying62 hi0 hz1 g i cap cur HG.out (by simp [Act.eval, Act.put]) A (n - j) (cap - j) news (by simp [Act.eval, Act.put]) s1.out hsrc.out s2.out (by omega) hfit.out ?_; rw [← hW.out])
  have hcl2 := HCL.out
  go_wp2
  go_ret
  rw [show n - (j - i) = i + (n - j) by omega, ← hNW.out]
  exact ⟨rfl, hfin.out, hgr.out⟩

theorem infoN : (Try.prog.info? 55).map (fun i => (i.zero, i.size, i.bytes)) = some (some (.pointer none), 1, 8) := by kernel_rfl

set_option maxHeartbeats 4000000 in
set_option maxRecDepth 100000 in
theorem deleteN_any (g n cap N i j : Nat) (xs : List Value) (h1 : ∀ v ∈ xs, v.oneCell' = true) (w : World) (h : w.ownsRow N 55 1 (.slice (some ⟨g, 0, none⟩) n cap) n xs) (hij : i < j) (hj : j ≤ n) :
    Calls Try.prog 51 #[.slice (some ⟨g, 0, none⟩) n cap, .int .i64 (i : Int), .int .i64 (j : Int)] w fun e w' => e = .returned (.slice (some ⟨g, 0, none⟩) (n - (j - i)) cap) ∧ w'.ownsRow N 55 1 (.slice (some ⟨g, 0, none⟩) (n - (j - i)) cap) (n - (j - i)) (xs.take (i * 1) ++ xs.drop (j * 1)) ∧ w.grownBy w' (some g) := by
  obtain ⟨i0, hi0, hz0, hz1, hz2⟩ := info_parts infoN
  obtain ⟨cur, hg, hnc, hcm, hcs, htake, hbase, hlt⟩ := own_cell h
  have hxl : xs.length = n * 1 := h.1
  unfold maxLen at hcm
  obtain ⟨news, hnews⟩ : ∃ news, news = xs.drop (j * 1) := ⟨_, rfl⟩
  have hnl : news.length = (n - j) * 1 := by rw [hnews, List.length_drop, hxl]; omega
  have hcell : ∀ t u, xs[t]? = some u → w.cell? ⟨g, t, none⟩ = some u := by
    intro t u hu
    rw [cell_of_row w g t cur 55 (0, 0) hg]
    rw [← htake, List.getElem?_take] at hu
    split at hu
    · simpa using hu
    · cases hu
  obtain ⟨A, hA, hsrc⟩ : ∃ A : Addr, (if cap = j then some (⟨g, 0, none⟩ : Addr) else some ⟨g, j * 1, none⟩) = some A ∧ Hid (∀ t u, news[t]? = some u → w.drew.cell? (A.add t) = some u) := by
    by_cases hc : cap = j
    · refine ⟨⟨g, 0, none⟩, by simp [hc], fun t u hu => ?_⟩
      have h0 : news.length = 0 := by rw [hnl]; omega
      rw [List.length_eq_zero_iff.1 h0] at hu
      simp at hu
    · refine ⟨⟨g, j * 1, none⟩, by simp [hc], fun t u hu => ?_⟩
      rw [hnews, List.getElem?_drop] at hu
      rw [Addr.add_lit]
      exact hcell _ _ hu
  have s1 : Hid (news.length = (n - j) * 1) := hnl
  have s2 : Hid (∀ u ∈ news, u.oneCell' = true) := fun u hu => h1 u (by rw [hnews] at hu; exact List.mem_of_mem_drop hu)
  have hfit : Hid (i * 1 + news.length ≤ cur.size) := by show _ ≤ _; rw [hnl, hcs]; omega
  obtain ⟨cur1, hc1⟩ : ∃ cur1, cur1 = (cur.toList.take (i * 1) ++ news ++ cur.toList.drop (i * 1 + news.length)).toArray := ⟨_, rfl⟩
  have hcl1 : cur1.toList.length = cur.size := by
    rw [hc1]
    have := hfit.out
    simp only [List.length_append, List.length_take, List.length_drop, Array.length_toList]
    omega
  have hcs1 : cur1.size = cap * 1 := by rw [← hcs, ← hcl1, Array.length_toList]
  obtain ⟨W1, hW1⟩ : ∃ W1, W1 = w.drew.setRow g cur1 := ⟨_, rfl⟩
  have hg1 : W1.heap[g]? = some (.cells cur1 55 (0, 0)) := by rw [hW1]; exact setRow_heap w.drew g cur cur1 55 _ hg
  have hcl := fun ty => run_clear_rowK (P := Try.prog) W1 73 ty 55 (.pointer none) 1 g ((i + (n - j)) * 1) (n - (i + (n - j))) (cap - (i + (n - j))) cur1 55 Try.underlying73 i0 hi0 hz0 rfl (by decide) hg1 (by omega) (by rw [hcs1]; omega)
  obtain ⟨cur2, hc2⟩ : ∃ cur2, cur2 = (cur1.toList.take ((i + (n - j)) * 1) ++ (Builtin.zeroCells (.pointer none : Value).cells (n - (i + (n - j)))).toList ++ cur1.toList.drop ((i + (n - j)) * 1 + (n - (i + (n - j))) * 1)).toArray := ⟨_, rfl⟩
  obtain ⟨W2, hW2⟩ : ∃ W2, W2 = W1.setRow g cur2 := ⟨_, rfl⟩
  rw [← hc2, ← hW2] at hcl
  have HCL : Hid (∀ ty, (Builtin.clear_ #[73] ty #[.slice (some ⟨g, (i + (n - j)) * 1, none⟩) (n - (i + (n - j))) (cap - (i + (n - j)))]).run Try.prog W1 = .ok (.tuple #[]) W2) := hcl
  have hfin : Hid (W2.ownsRow N 55 1 (.slice (some ⟨g, 0, none⟩) (i + (n - j)) cap) (i + (n - j)) (xs.take (i * 1) ++ news)) := by
    have hg2 : W2.heap[g]? = some (.cells cur2 55 (0, 0)) := by rw [hW2]; exact setRow_heap W1 g cur1 cur2 55 _ hg1
    have hzl : (Builtin.zeroCells (.pointer none : Value).cells (n - (i + (n - j)))).toList.length = (n - (i + (n - j))) * 1 := by simp [Builtin.zeroCells, Value.cells]
    have := own_mk (base := N) (size := 1) (n := i + (n - j)) (cap := cap) hg2 hbase (by omega) (by unfold maxLen; omega) (by rw [hc2]; simp only [List.size_toArray, List.length_append, List.length_take, List.length_drop, hzl, hcl1, hcs]; omega)
    have e : List.take ((i + (n - j)) * 1) cur2.toList = xs.take (i * 1) ++ news := ?_
    · rw [e] at this; exact this
    rw [hc2]
    show List.take _ (_ ++ _ ++ _) = _
    rw [List.append_assoc, List.take_append_of_le_length (by rw [List.length_take, hcl1, hcs]; omega), List.take_take, Nat.min_self, hc1]
    show List.take _ (_ ++ _ ++ _) = _
    have hit : (cur.toList.take (i * 1)).length = i * 1 := by rw [List.length_take, Array.length_toList, hcs]; omega
    rw [List.take_append_of_le_length (by rw [List.length_append, hit, hnl]; omega), List.take_of_length_le (by rw [List.length_append, hit, hnl]; omega), ← htake, List.take_take, Nat.min_eq_left (by omega)]
  have hgr : Hid (w.grownBy W2 (some g)) := by
    have a0 : w.grownBy w.drew (some g) := ⟨rfl, rfl, rfl, Nat.le_refl _, fun _ _ _ => rfl⟩
    have a1 : w.drew.grownBy W1 (some g) := by rw [hW1]; exact grown_setRow _ _ _
    have a2 : W1.grownBy W2 (some g) := by rw [hW2]; exact grown_setRow _ _ _
    exact grown_trans (grown_trans a0 a1) a2
  have hW : Hid (W1 = w.drew.setRow g (cur.toList.take (i * 1) ++ news ++ cur.toList.drop (i * 1 + news.length)).toArray) := by rw [← hc1]; exact hW1
  have HG : Hid (w.heap[g]? = some (.cells cur 55 (0, 0))) := hg
  have hq1 : (i : Int) ≤ (cap : Int) := by omega
  have hq2 : (j : Int) ≤ (cap : Int) := by omega
  have hq3 : (i : Int) ≤ (j : Int) := by omega
  have hq4 : (j : Int) ≤ (n : Int) := by omega
  have hq5 : ((i : Int) == (j : Int)) = false := beq_eq_false_iff_ne.2 (by omega)
  have hq6 : ¬ cap = i + (n - j) := by omega
  have hq7 : ¬ n = i := by omega
  have hNW : Hid (news = xs.drop (j * 1)) := hnews
  clear h htake hcell hnl hcl1 hcs1 hW1 hg1 hcl hW2 hc1 hc2 hcs hg hxl h1 hnews hbase hlt
  have hA2 := hA
  simp only [Nat.mul_one] at hA2
  have mixed : Try.prog.follows Departure.mixedOrders = true := by kernel_rfl
  go_enter Try.func51, Try.ntmps51
  go_wp2_with fail
  go_region_law_o (refine step_append_rowK rfl (.tmp 22) (.tmp 25) 73 rfl 55 i0 1 Try.underlying73 hi0 hz1 g i cap cur HG.out (by simp [Act.eval, Act.put]) A (n - j) (cap - j) news (by simp [Act.eval, Act.put]) s1.out hsrc.out s2.out (by omega) hfit.out ?_; rw [← hW.out])
  have hcl2 := HCL.out
  simp only [Nat.mul_one] at hcl2
  go_wp2
  go_ret
  rw [show n - (j - i) = i + (n - j) by omega, ← hNW.out]
  exact ⟨rfl, hfin.out, hgr.out⟩

theorem erase_take {α : Type} (l : List α) (i : Nat) : l.take i ++ l.drop (i + 1) = l.eraseIdx i := (List.eraseIdx_eq_take_drop_succ l i).symm
theorem deleteE_one (g cap N i : Nat) (es : List Ent) (n : Int) (w : World) (h : OwE w N (.slice (some ⟨g, 0, none⟩) es.length cap) es) (hi : i < es.length) (hn : n = ((i + 1 : Nat) : Int)) :
    Calls Try.prog 53 #[.slice (some ⟨g, 0, none⟩) es.length cap, .int .i64 (i : Int), .int .i64 n] w fun e w' => e = .returned (.slice (some ⟨g, 0, none⟩) (es.length - 1) cap) ∧ OwE w' N (.slice (some ⟨g, 0, none⟩) (es.length - 1) cap) (es.eraseIdx i) ∧ w.grownBy w' (some g) := by
  subst hn
  refine (deleteE_any g es.length cap N i (i + 1) (ecs es) (ecs_one es) w h (by omega) (by omega)).mono ?_
  rintro e w' ⟨rfl, ho, hg⟩
  rw [ecs_take, ecs_drop, ← ecs_append, erase_take, show es.length - (i + 1 - i) = es.length - 1 by omega] at ho
  rw [show es.length - (i + 1 - i) = es.length - 1 by omega]
  refine ⟨rfl, ?_, hg⟩
  unfold OwE
  rw [List.length_eraseIdx_of_lt hi]
  exact ho
theorem deleteN_one (g cap N i : Nat) (bs : List Nat) (n : Int) (w : World) (h : OwN w N (.slice (some ⟨g, 0, none⟩) bs.length cap) bs) (hi : i < bs.length) (hn : n = ((i + 1 : Nat) : Int)) :
    Calls Try.prog 51 #[.slice (some ⟨g, 0, none⟩) bs.length cap, .int .i64 (i : Int), .int .i64 n] w fun e w' => e = .returned (.slice (some ⟨g, 0, none⟩) (bs.length - 1) cap) ∧ OwN w' N (.slice (some ⟨g, 0, none⟩) (bs.length - 1) cap) (bs.eraseIdx i) ∧ w.grownBy w' (some g) := by
  subst hn
  refine (deleteN_any g bs.length cap N i (i + 1) (pcs bs) (pcs_one bs) w h (by omega) (by omega)).mono ?_
  rintro e w' ⟨rfl, ho, hg⟩
  rw [pcs_take, pcs_drop, ← pcs_append, erase_take, show bs.length - (i + 1 - i) = bs.length - 1 by omega] at ho
  rw [show bs.length - (i + 1 - i) = bs.length - 1 by omega]
  refine ⟨rfl, ?_, hg⟩
  unfold OwN
  rw [List.length_eraseIdx_of_lt hi]
  exact ho

set_option maxHeartbeats 1000000 in
theorem withoutN_any (g cap N i : Nat) (bs : List Nat) (w : World) (h : OwN w N (.slice (some ⟨g, 0, none⟩) bs.length cap) bs) (hi : i < bs.length) :
    Calls Try.prog 71 #[.slice (some ⟨g, 0, none⟩) bs.length cap, .int .i64 (i : Int)] w fun e w' => e = .returned (.tuple #[.pointer (some ⟨bs[i], 0, none⟩), .slice (some ⟨g, 0, none⟩) (bs.length - 1) cap]) ∧ OwN w' N (.slice (some ⟨g, 0, none⟩) (bs.length - 1) cap) (bs.eraseIdx i) ∧ w.grownBy w' (some g) := by
  have c0 := h.at i hi
  obtain ⟨cur, _, hnc, hcm, _, _, _, _⟩ := own_cell h
  unfold maxLen at hcm
  have D := fun n hn => deleteN_one g cap N i bs n w h hi hn
  have hii : (i : Int) < (bs.length : Int) := by omega
  obtain ⟨x, hx⟩ : ∃ x, bs[i] = x := ⟨_, rfl⟩
  rw [hx] at c0 ⊢
  clear h hx
  go_enter Try.func71, Try.ntmps71
  go_wp2_with fail
  refine (D _ (by omega)).mono ?_
  rintro e w' ⟨rfl, ho, hg⟩
  go_wp2
  go_ret2
  exact ⟨rfl, ho, hg⟩

theorem ent_size : (Try.prog.info? 65).map (·.size) = some 2 := by kernel_rfl
set_option maxHeartbeats 2000000 in
theorem withoutE_any (g cap N i : Nat) (es : List Ent) (w : World) (h : OwE w N (.slice (some ⟨g, 0, none⟩) es.length cap) es) (hi : i < es.length) :
    Calls Try.prog 58 #[.slice (some ⟨g, 0, none⟩) es.length cap, .int .i64 (i : Int)] w fun e w' => e = .returned (.tuple #[.agg #[.string es[i].1, .int .i64 es[i].2], .slice (some ⟨g, 0, none⟩) (es.length - 1) cap]) ∧ OwE w' N (.slice (some ⟨g, 0, none⟩) (es.length - 1) cap) (es.eraseIdx i) ∧ w.grownBy w' (some g) := by
  obtain ⟨c0, c1⟩ := h.at i hi
  obtain ⟨cur, _, hnc, hcm, _, _, _, hglt⟩ := own_cell h
  unfold maxLen at hcm
  have hii : (i : Int) < (es.length : Int) := by omega
  have hwr : IntKind.i64.wrap ((i : Int) + 1) = (i : Int) + 1 := by rw [IntKind.wrap_i64]; omega
  obtain ⟨x, hx⟩ : ∃ x, es[i] = x := ⟨_, rfl⟩
  rw [hx] at c0 c1 ⊢
  have HO : Hid (OwE w N (.slice (some ⟨g, 0, none⟩) es.length cap) es) := h
  have hne1 : ¬ g = w.heap.size := by omega
  clear h hx
  go_enter Try.func58, Try.ntmps58
  go_wp2_with fail
  obtain ⟨W, hW⟩ : ∃ W, W = (w.alloc (.cells #[.string ⟨#[]⟩, .int .i64 0] 65)).alloc (.cells #[.string x.1, .int .i64 x.2] 65) := ⟨_, rfl⟩
  have hWs : W.heap.size = w.heap.size + 2 := by rw [hW]; simp
  have hWb : W.heap[w.heap.size]? = some (.cells #[.string ⟨#[]⟩, .int .i64 0] 65 (0, 0)) := by rw [hW]; exact (Below.heap_alloc _ _ _ (by simp)).trans (heap_alloc_new w _)
  have hb0 : W.cell? ⟨w.heap.size + 1, 0, none⟩ = some (.string x.1) := by rw [hW]; simp
  have hb1 : W.cell? ⟨w.heap.size + 1, 1, none⟩ = some (.int .i64 x.2) := by rw [hW]; simp
  have hd0 : W.cell? ⟨w.heap.size, 0, none⟩ = some (.string ⟨#[]⟩) := by rw [hW]; simp
  have hd1 : W.cell? ⟨w.heap.size, 1, none⟩ = some (.int .i64 0) := by rw [hW]; simp
  have he0 : W.frozen? ⟨w.heap.size, 0, none⟩ = false := by rw [hW]; simp
  have he1 : W.frozen? ⟨w.heap.size, 1, none⟩ = false := by rw [hW]; simp
  have HG1 : Hid (w.grownBy W none) := by show w.grownBy W none; rw [hW]; exact ⟨rfl, rfl, rfl, (by simp; omega), fun k hk _ => (Below.heap_alloc _ _ k (by simp; omega)).trans (Below.heap_alloc _ _ k hk)⟩
  rw [← hW]
  have far : ∀ (Y : World) (k : Nat), W.drew.grownBy Y (some g) → k < W.heap.size → k ≠ g → Y.heap[k]? = W.heap[k]? := fun Y k h hk hne => h.block k hk (fun e => hne (Option.some.inj e))
  clear hW c0 c1
  refine wp_region_held_drew (S := (fun V => V.cell? ⟨w.heap.size + 1, 0, none⟩ = some (.string x.1) ∧ V.cell? ⟨w.heap.size + 1, 1, none⟩ = some (.int .i64 x.2))) (by kernel_rfl) ?_ (fun hHeld => ?_)
  · ((try dsimp only); exact ⟨hb0, hb1⟩)
  refine wpAnyH_take (i := 0) (oi := { dst := some 11, op := Go.Op.load 65 (Go.Operand.tmp 6), type := 65, pos := "balanced.go:178", after := #[], guard := none }) (v := ?_) rfl (by kernel_rfl) (by kernel_rfl) (by kernel_rfl) (fun _ _ _ h => h) (Or.inl ⟨by rfl, ?_⟩) (by assumption) ?_
  rotate_left
  · (intro W hSw; (try dsimp only at hSw); obtain ⟨p0, p1⟩ := hSw; first | (go_simp; done) | (go_simp; with_reducible rfl))
  try simp only [Act.put, List.setIfInBounds_toArray, List.set_cons_zero, List.set_cons_succ]
  refine wpAnyH_take (i := 1) (oi := { dst := some 12, op := Go.Op.move (Go.Operand.tmp 0), type := 62, pos := "balanced.go:178", after := #[], guard := none }) (v := ?_) rfl (by kernel_rfl) (by kernel_rfl) (by kernel_rfl) (fun _ _ _ h => h) (Or.inl ⟨by rfl, ?_⟩) (by assumption) ?_
  rotate_left
  · (intro W hSw; (try dsimp only at hSw); first | (go_simp; done) | (go_simp; with_reducible rfl))
  try simp only [Act.put, List.setIfInBounds_toArray, List.set_cons_zero, List.set_cons_succ]
  refine wpAnyH_take (i := 2) (oi := { dst := some 13, op := Go.Op.move (Go.Operand.tmp 1), type := 3, pos := "balanced.go:178", after := #[], guard := none }) (v := ?_) rfl (by kernel_rfl) (by kernel_rfl) (by kernel_rfl) (fun _ _ _ h => h) (Or.inl ⟨by rfl, ?_⟩) (by assumption) ?_
  rotate_left
  · (intro W hSw; (try dsimp only at hSw); first | (go_simp; done) | (go_simp; with_reducible rfl))
  try simp only [Act.put, List.setIfInBounds_toArray, List.set_cons_zero, List.set_cons_succ]
  refine wpAnyH_take (i := 3) (oi := { dst := some 14, op := Go.Op.move (Go.Operand.tmp 1), type := 3, pos := "balanced.go:178", after := #[], guard := none }) (v := ?_) rfl (by kernel_rfl) (by kernel_rfl) (by kernel_rfl) (fun _ _ _ h => h) (Or.inl ⟨by rfl, ?_⟩) (by assumption) ?_
  rotate_left
  · (intro W hSw; (try dsimp only at hSw); first | (go_simp; done) | (go_simp; with_reducible rfl))
  try simp only [Act.put, List.setIfInBounds_toArray, List.set_cons_zero, List.set_cons_succ]
  refine wpAnyH_take (i := 4) (oi := { dst := some 15, op := Go.Op.binOp Go.BinOp.add 3 (Go.Operand.tmp 14) (Go.Operand.const (Go.Value.int Go.IntKind.i64 1)) 3, type := 3, pos := "balanced.go:178", after := #[{ on := 3, ground := Go.Ground.data }], guard := none }) (v := .int .i64 ((i : Int) + 1)) rfl (by kernel_rfl) (by kernel_rfl) (by kernel_rfl) (fun _ _ _ h => h) (Or.inl ⟨by rfl, (by intro W hSw; (try dsimp only at hSw); go_simp; first | done | (congr 2; rw [IntKind.wrap_i64]; omega) | (rw [hwr]))⟩) (by assumption) ?_
  try simp only [Act.put, List.setIfInBounds_toArray, List.set_cons_zero, List.set_cons_succ]
  refine wpAnyH_ready (rs := [5]) (by kernel_rfl) (by simp) ?_
  refine AllReadyH.cons (o := { dst := some 16, op := Go.Op.call { callee := Go.Callee.value (Go.Operand.func 53), args := #[Go.Operand.tmp 12, Go.Operand.tmp 13, Go.Operand.tmp 15], argTypes := #[62, 3, 3] }, type := 62, pos := "balanced.go:178", after := #[{ on := 1, ground := Go.Ground.data }, { on := 2, ground := Go.Ground.data }, { on := 4, ground := Go.Ground.data }], guard := none }) rfl (fun K hK => ?_) AllReadyH.nil
  go_simp
  go_at_call 53
  refine (deleteE_one g cap N i es ((i : Int) + 1) W.drew (World.ownsRow.kept HO.out (grown_drew HG1.out) (.inr (by simp [Value.ownBlock]))) hi (by omega)).mono ?_
  rintro e w5 ⟨rfl, ho5, hg5⟩
  have hyb := (far w5 w.heap.size hg5 (by omega) (by omega)).trans hWb
  have hx0 := (World.cell?_of_block (w := W) (w' := w5) (a := ⟨w.heap.size + 1, 0, none⟩) (far w5 (w.heap.size + 1) hg5 (by omega) (by omega))).trans hb0
  have hx1 := (World.cell?_of_block (w := W) (w' := w5) (a := ⟨w.heap.size + 1, 1, none⟩) (far w5 (w.heap.size + 1) hg5 (by omega) (by omega))).trans hb1
  have hy0 := (World.cell?_of_block (w := W) (w' := w5) (a := ⟨w.heap.size, 0, none⟩) (far w5 (w.heap.size) hg5 (by omega) (by omega))).trans hd0
  have hy1 := (World.cell?_of_block (w := W) (w' := w5) (a := ⟨w.heap.size, 1, none⟩) (far w5 (w.heap.size) hg5 (by omega) (by omega))).trans hd1
  have hf0 := (World.frozen?_of_block (w := W) (w' := w5) (a := ⟨w.heap.size, 0, none⟩) (far w5 (w.heap.size) hg5 (by omega) (by omega))).trans he0
  have hf1 := (World.frozen?_of_block (w := W) (w' := w5) (a := ⟨w.heap.size, 1, none⟩) (far w5 (w.heap.size) hg5 (by omega) (by omega))).trans he1
  refine hK.out _ _ ?_ (fun hHeld => ?_)
  · ((try dsimp only); exact ⟨hx0, hx1⟩)
  clear hK K
  try simp only [Act.put, List.setIfInBounds_toArray, List.set_cons_zero, List.set_cons_succ]
  refine wpAnyH_ready (rs := [6]) (by kernel_rfl) (by simp) ?_
  refine AllReadyH.cons (o := { dst := none, op := Go.Op.store 65 (Go.Operand.tmp 4) (Go.Operand.tmp 11), type := 0, pos := "balanced.go:178", after := #[{ on := 0, ground := Go.Ground.data }, { on := 5, ground := Go.Ground.chain }, { on := 0, ground := Go.Ground.phase }, { on := 1, ground := Go.Ground.textOnly Go.Departure.lateStores }, { on := 2, ground := Go.Ground.textOnly Go.Departure.lateStores }, { on := 3, ground := Go.Ground.textOnly Go.Departure.lateStores }, { on := 4, ground := Go.Ground.textOnly Go.Departure.lateStores }, { on := 5, ground := Go.Ground.textOnly Go.Departure.lateStoresUnsure }], guard := none }) rfl (fun K hK => ?_) AllReadyH.nil
  go_simp
  refine hK.out _ _ ?_ (fun hHeld => ?_)
  · ((try dsimp only); exact ⟨(World.cell?_setCell_other _ _ _ _ (by simp)).trans ((World.cell?_setCell_other _ _ _ _ (by simp)).trans hx0), (World.cell?_setCell_other _ _ _ _ (by simp)).trans ((World.cell?_setCell_other _ _ _ _ (by simp)).trans hx1)⟩)
  clear hK K
  try simp only [Act.put, List.setIfInBounds_toArray, List.set_cons_zero, List.set_cons_succ]
  refine wpAnyH_take (i := 7) (oi := { dst := some 5, op := Go.Op.assign (Go.Operand.tmp 16), type := 62, pos := "balanced.go:178", after := #[{ on := 5, ground := Go.Ground.data }, { on := 6, ground := Go.Ground.chain }, { on := 0, ground := Go.Ground.phase }, { on := 1, ground := Go.Ground.phase }, { on := 2, ground := Go.Ground.phase }, { on := 3, ground := Go.Ground.phase }, { on := 4, ground := Go.Ground.phase }, { on := 5, ground := Go.Ground.phase }, { on := 6, ground := Go.Ground.phase }], guard := none }) (v := ?_) rfl (by kernel_rfl) (by kernel_rfl) (by kernel_rfl) (fun _ _ _ h => h) (Or.inl ⟨by rfl, ?_⟩) (by assumption) ?_
  rotate_left
  · (intro W hSw; (try dsimp only at hSw); first | (go_simp; done) | (go_simp; with_reducible rfl))
  try simp only [Act.put, List.setIfInBounds_toArray, List.set_cons_zero, List.set_cons_succ]
  refine wpAnyH_done (by kernel_rfl) ?_ _
  skip
  go_wp2
  refine bodyPost_ret (results_row_tmp rfl _ _ w.heap.size 65 #[.string x.1, .int .i64 x.2] (0, 0) _ (.slice (some ⟨g, 0, none⟩) (es.length - 1) cap) rfl rfl ?_ Try.underlying65 rfl ent_size) rfl ?_
  · exact heap_set _ _ 1 _ _ _ (heap_set _ _ 0 _ _ _ hyb)
  · have hB : w.grownBy W (some g) := ⟨HG1.out.os, HG1.out.tape, HG1.out.output, HG1.out.size, fun k hk _ => HG1.out.block k hk (fun e => by cases e)⟩
    have hC := grown_trans (grown_drew hB) hg5
    refine ⟨rfl, ?_, ?_⟩
    · refine World.ownsRow.kept (World.ownsRow.kept ho5 (grown_setCell w5 w.heap.size 0 _) (.inr ?_)) (grown_setCell _ w.heap.size 1 _) (.inr ?_) <;> exact fun e => hne1 (Option.some.inj (show some g = some w.heap.size from e))
    · have d1 := grown_setCell w5 w.heap.size 0 (.string x.1)
      have d2 := grown_setCell (w5.setCell ⟨w.heap.size, 0, none⟩ (.string x.1)) w.heap.size 1 (.int .i64 x.2)
      exact ⟨hC.os, hC.tape, hC.output, Nat.le_trans hC.size (Nat.le_trans d1.size d2.size), fun k hk hne => (d2.block k (Nat.lt_of_lt_of_le hk (Nat.le_trans hC.size d1.size)) (fun e => by cases e; omega)).trans ((d1.block k (Nat.lt_of_lt_of_le hk hC.size) (fun e => by cases e; omega)).trans (hC.block k hk hne))⟩
end Go.Proofs.Ytmdembfnpmlmaaa
