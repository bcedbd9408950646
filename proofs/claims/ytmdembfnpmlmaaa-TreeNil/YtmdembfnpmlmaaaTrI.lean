/-
  The contracts of slices.Insert of one element, at entries and at nodes' pointers.
-/
import Derived.Test.YtmdembfnpmlmaaaTrD
namespace Go.Proofs.Ytmdembfnpmlmaaa
open Go.RowKit Go.Lib

theorem take_mid {α : Type} (A B : List α) (p q : Nat) (hA : A.length = p) : (A ++ B).take (p + q) = A ++ B.take q := by
  subst hA
  rw [List.take_append, List.take_of_length_le (by omega), Nat.add_sub_cancel_left]

set_option maxHeartbeats 2000000 in
set_option maxRecDepth 100000 in
theorem insertE_end (v : Value) (n N vb : Nat) (xs x : List Value) (w : World) (h : w.ownsRow N 65 2 v n xs) (hx : w.heap[vb]? = some (.cells x.toArray 65 (0, 0))) (hxl : x.length = 2) (h1x : ∀ u ∈ x, u.oneCell' = true) (hn : n ≤ 1000) (hN : N ≤ w.heap.size) :
    Calls Try.prog 48 #[v, .int .i64 (n : Int), .slice (some ⟨vb, 0, none⟩) 1 1] w fun e w' => ∃ v', e = .returned v' ∧ w'.ownsRow N 65 2 v' (n + 1) (xs ++ x) ∧ w.grownBy w' v.ownBlock ∧ (v'.ownBlock = v.ownBlock ∨ v'.ownBlock = some w.heap.size) := by
  obtain ⟨i0, hi0, hz0, hz1, hz2⟩ := info_parts infoE
  have hxc : ∀ j u, x[j]? = some u → w.cell? ((⟨vb, 0, none⟩ : Addr).add j) = some u := by
    intro j u hu
    rw [Addr.add_lit, Nat.zero_add, cell_of_row w vb j x.toArray 65 (0, 0) hx]
    simpa using hu
  rcases own_val h with ⟨rfl, rfl⟩ | ⟨g, cap, rfl, hnc, hcm, hNg, hgl⟩
  · clear hx
    go_enter Try.func48, Try.ntmps48
    go_wp2_with (at_builtin; refine wpList_append_lies _ rfl (.tmp 23) (.tmp 24) 62 rfl N 65 i0 _ 2 24 Try.underlying62 hi0 hz0 hz1 hz2 rfl (by decide) _ 0 xs rfl h ⟨vb, 0, none⟩ 1 1 x rfl (by omega) hxc h1x (by omega) (by unfold maxLen; omega) (by omega) hN _ rfl ?_)
    intro g cap w' ho hgr hat hlt
    go_wp2
    go_ret
    refine ⟨_, rfl, ho, hgr, ?_⟩
    rcases hat with e | e
    · exact .inl e.symm
    · exact .inr (by rw [← e]; rfl)
  · unfold maxLen at hcm
    clear hx
    go_enter Try.func48, Try.ntmps48
    go_wp2_with (at_builtin; refine wpList_append_lies _ rfl (.tmp 23) (.tmp 24) 62 rfl N 65 i0 _ 2 24 Try.underlying62 hi0 hz0 hz1 hz2 rfl (by decide) _ n xs rfl h ⟨vb, 0, none⟩ 1 1 x rfl (by omega) hxc h1x (by omega) (by unfold maxLen; omega) (by omega) hN _ rfl ?_)
    all_goals
      intro g cap w' ho hgr hat hlt
      go_wp2
      go_ret
      refine ⟨_, rfl, ho, hgr, ?_⟩
      rcases hat with e | e
      · exact .inl e.symm
      · exact .inr (by rw [← e]; rfl)

set_option maxHeartbeats 2000000 in
set_option maxRecDepth 100000 in
theorem insertN_end (v : Value) (n N vb : Nat) (xs x : List Value) (w : World) (h : w.ownsRow N 55 1 v n xs) (hx : w.heap[vb]? = some (.cells x.toArray 55 (0, 0))) (hxl : x.length = 1) (h1x : ∀ u ∈ x, u.oneCell' = true) (hn : n ≤ 1000) (hN : N ≤ w.heap.size) :
    Calls Try.prog 52 #[v, .int .i64 (n : Int), .slice (some ⟨vb, 0, none⟩) 1 1] w fun e w' => ∃ v', e = .returned v' ∧ w'.ownsRow N 55 1 v' (n + 1) (xs ++ x) ∧ w.grownBy w' v.ownBlock ∧ (v'.ownBlock = v.ownBlock ∨ v'.ownBlock = some w.heap.size) := by
  obtain ⟨i0, hi0, hz0, hz1, hz2⟩ := info_parts infoN
  have hxc : ∀ j u, x[j]? = some u → w.cell? ((⟨vb, 0, none⟩ : Addr).add j) = some u := by
    intro j u hu
    rw [Addr.add_lit, Nat.zero_add, cell_of_row w vb j x.toArray 55 (0, 0) hx]
    simpa using hu
  rcases own_val h with ⟨rfl, rfl⟩ | ⟨g, cap, rfl, hnc, hcm, hNg, hgl⟩
  · clear hx
    go_enter Try.func52, Try.ntmps52
    go_wp2_with (at_builtin; refine wpList_append_lies _ rfl (.tmp 23) (.tmp 24) 73 rfl N 55 i0 _ 1 8 Try.underlying73 hi0 hz0 hz1 hz2 rfl (by decide) _ 0 xs rfl h ⟨vb, 0, none⟩ 1 1 x rfl (by omega) hxc h1x (by omega) (by unfold maxLen; omega) (by omega) hN _ rfl ?_)
    intro g cap w' ho hgr hat hlt
    go_wp2
    go_ret
    refine ⟨_, rfl, ho, hgr, ?_⟩
    rcases hat with e | e
    · exact .inl e.symm
    · exact .inr (by rw [← e]; rfl)
  · unfold maxLen at hcm
    clear hx
    go_enter Try.func52, Try.ntmps52
    go_wp2_with (at_builtin; refine wpList_append_lies _ rfl (.tmp 23) (.tmp 24) 73 rfl N 55 i0 _ 1 8 Try.underlying73 hi0 hz0 hz1 hz2 rfl (by decide) _ n xs rfl h ⟨vb, 0, none⟩ 1 1 x rfl (by omega) hxc h1x (by omega) (by unfold maxLen; omega) (by omega) hN _ rfl ?_)
    all_goals
      intro g cap w' ho hgr hat hlt
      go_wp2
      go_ret
      refine ⟨_, rfl, ho, hgr, ?_⟩
      rcases hat with e | e
      · exact .inl e.symm
      · exact .inr (by rw [← e]; rfl)

set_option maxHeartbeats 2000000 in
set_option maxRecDepth 100000 in
theorem insertE_room (g n cap i N vb : Nat) (xs x : List Value) (w : World) (h : w.ownsRow N 65 2 (.slice (some ⟨g, 0, none⟩) n cap) n xs) (h1 : ∀ u ∈ xs, u.oneCell' = true) (hx : w.heap[vb]? = some (.cells x.toArray 65 (0, 0))) (hxl : x.length = 2) (h1x : ∀ u ∈ x, u.oneCell' = true) (hi : i < n) (hr : n + 1 ≤ cap) (hne : vb ≠ g) :
    Calls Try.prog 48 #[.slice (some ⟨g, 0, none⟩) n cap, .int .i64 (i : Int), .slice (some ⟨vb, 0, none⟩) 1 1] w fun e w' => e = .returned (.slice (some ⟨g, 0, none⟩) (n + 1) cap) ∧ w'.ownsRow N 65 2 (.slice (some ⟨g, 0, none⟩) (n + 1) cap) (n + 1) (xs.take (i * 2) ++ (x ++ xs.drop (i * 2))) ∧ w.grownBy w' (some g) := by
  obtain ⟨cur, hg, hnc, hcm, hcs, htake, hbase, hlt⟩ := own_cell h
  have hxsl : xs.length = n * 2 := h.1
  unfold maxLen at hcm
  have hsz : (Try.prog.info? 65).map (·.size) = some 2 := by kernel_rfl
  have hcell : ∀ t u, xs[t]? = some u → w.cell? ⟨g, t, none⟩ = some u := fun t u hu => own_at h hu
  have hdl : (xs.drop (i * 2)).length = (n - i) * 2 := by rw [List.length_drop, hxsl]; omega
  have hmin1 : Nat.min (n + 1 - i) (n - i) = n - i := by simp only [Nat.min_def]; split <;> omega
  have hmin2 : Nat.min 1 (n + 1 - i) = 1 := by simp only [Nat.min_def]; split <;> omega
  obtain ⟨cur1, hc1⟩ : ∃ cur1, cur1 = (cur.toList.take ((i + 1) * 2) ++ xs.drop (i * 2) ++ cur.toList.drop ((i + 1) * 2 + (xs.drop (i * 2)).length)).toArray := ⟨_, rfl⟩
  have hcl1 : cur1.toList.length = cap * 2 := by
    rw [hc1]
    simp only [List.length_append, List.length_take, List.length_drop, Array.length_toList, hcs, hxsl]
    omega
  have hcs1 : cur1.size = cap * 2 := by rw [← hcl1, Array.length_toList]
  obtain ⟨W1, hW1⟩ : ∃ W1, W1 = w.drew.setRow g cur1 := ⟨_, rfl⟩
  have hg1 : W1.heap[g]? = some (.cells cur1 65 (0, 0)) := by rw [hW1]; exact setRow_heap w.drew g cur cur1 65 _ hg
  have hcp1 := fun ty dc sc => run_copy_rowK (P := Try.prog) w.drew 62 62 ty 65 2 g ((i + 1) * 2) (n - i) dc ⟨g, i * 2, none⟩ (n + 1 - i) sc cur 65 (xs.drop (i * 2)) Try.underlying62 hsz hg (by rw [hdl, hmin1]) (fun j u hu => by rw [List.getElem?_drop] at hu; rw [Addr.add_lit]; exact hcell _ _ hu) (by rw [hdl, hcs]; omega) (fun u hu => h1 u (List.mem_of_mem_drop hu))
  rw [← hc1, ← hW1] at hcp1
  obtain ⟨cur2, hc2⟩ : ∃ cur2, cur2 = (cur1.toList.take (i * 2) ++ x ++ cur1.toList.drop (i * 2 + x.length)).toArray := ⟨_, rfl⟩
  obtain ⟨W2, hW2⟩ : ∃ W2, W2 = W1.setRow g cur2 := ⟨_, rfl⟩
  have hx1 : W1.heap[vb]? = some (.cells x.toArray 65 (0, 0)) := by rw [hW1, setRow_other w.drew g vb cur1 hne]; exact hx
  have hcp2 := fun ty dc => run_copy_rowK (P := Try.prog) W1 62 62 ty 65 2 g (i * 2) (n + 1 - i) dc ⟨vb, 0, none⟩ 1 1 cur1 65 x Try.underlying62 hsz hg1 (by rw [hxl, hmin2]) (fun j u hu => by rw [Addr.add_lit, Nat.zero_add, cell_of_row W1 vb j x.toArray 65 (0, 0) hx1]; simpa using hu) (by rw [hxl, hcs1]; omega) h1x
  rw [← hc2, ← hW2] at hcp2
  have hfin : Hid (W2.ownsRow N 65 2 (.slice (some ⟨g, 0, none⟩) (n + 1) cap) (n + 1) (xs.take (i * 2) ++ (x ++ xs.drop (i * 2)))) := by
    have hg2 : W2.heap[g]? = some (.cells cur2 65 (0, 0)) := by rw [hW2]; exact setRow_heap W1 g cur1 cur2 65 _ hg1
    have hcl2 : cur2.size = cap * 2 := by rw [hc2]; simp only [List.size_toArray, List.length_append, List.length_take, List.length_drop, hcl1, hxl]; omega
    have := own_mk (base := N) (size := 2) (n := n + 1) (cap := cap) hg2 hbase hr (by unfold maxLen; omega) hcl2
    have e : List.take ((n + 1) * 2) cur2.toList = xs.take (i * 2) ++ (x ++ xs.drop (i * 2)) := ?_
    · rw [e] at this; exact this
    have hct : (cur.toList.take ((i + 1) * 2)).length = (i + 1) * 2 := by rw [List.length_take, Array.length_toList, hcs]; omega
    have hit : (cur1.toList.take (i * 2)).length = i * 2 := by rw [List.length_take, hcl1]; omega
    have e1 : cur1.toList.take (i * 2) = xs.take (i * 2) := by
      rw [hc1]
      show List.take _ (_ ++ _ ++ _) = _
      rw [List.append_assoc, List.take_append_of_le_length (by rw [hct]; omega), List.take_take, Nat.min_eq_left (by omega), ← htake, List.take_take, Nat.min_eq_left (by omega)]
    have e2 : (cur1.toList.drop ((i + 1) * 2)).take ((n - i) * 2) = xs.drop (i * 2) := by
      rw [hc1]
      show List.take _ (List.drop _ (_ ++ _ ++ _)) = _
      rw [List.append_assoc, List.drop_append_of_le_length (by rw [hct]; exact Nat.le_refl _), List.drop_of_length_le (by rw [hct]; exact Nat.le_refl _), List.nil_append, List.take_append_of_le_length (by rw [hdl]; exact Nat.le_refl _), List.take_of_length_le (by rw [hdl]; exact Nat.le_refl _)]
    rw [hc2]
    show List.take _ (_ ++ _ ++ _) = _
    rw [hxl, show i * 2 + 2 = (i + 1) * 2 by omega, show (n + 1) * 2 = i * 2 + (2 + (n - i) * 2) by omega, List.append_assoc]
    rw [take_mid _ _ _ _ hit, e1, take_mid _ _ _ _ hxl, e2]
  have hgr : Hid (w.grownBy W2 (some g)) := by
    have a0 : w.grownBy w.drew (some g) := ⟨rfl, rfl, rfl, Nat.le_refl _, fun _ _ _ => rfl⟩
    have a1 : w.drew.grownBy W1 (some g) := by rw [hW1]; exact grown_setRow _ _ _
    have a2 : W1.grownBy W2 (some g) := by rw [hW2]; exact grown_setRow _ _ _
    exact grown_trans (grown_trans a0 a1) a2
  have hov : ∀ lb cb, (callFunc 60 #[.slice (some ⟨vb, 0, none⟩) 1 1, .slice (some ⟨g, (i + 1) * 2, none⟩) lb cb]).run Try.prog w = .ok (.value (.bool false)) w := fun lb cb => by
    rw [run_callFunc_extern Try.func60 (by kernel_rfl) (by kernel_rfl) (by kernel_rfl) (e := Extern.SlicesOverlaps.overlaps #[62, 62] #[4]) (by kernel_rfl),
      Lib.run_overlaps_apart w 62 4 65 Try.underlying62 2 (fun _ => by simp [sizeOf, typeInfo]; rfl) ⟨vb, 0, none⟩ ⟨g, (i + 1) * 2, none⟩ 1 1 lb cb hne 65 65 2 (cap * 2) (by simp [World.shape?, hx, hxl]) (by simp [World.shape?, hg, hcs]) (by omega) (by simp [World.frozen?, hx]) (by simp [World.frozen?, hx])]
    rfl
  have mixed : Try.prog.follows Departure.mixedOrders = true := by kernel_rfl
  have hw1 : IntKind.i64.wrap ((i : Int) + 1) = (i : Int) + 1 := by rw [IntKind.wrap_i64]; omega
  have hw2 : IntKind.i64.wrap ((n : Int) + 1) = (n : Int) + 1 := by rw [IntKind.wrap_i64]; omega
  have hq0 : ((i : Int) == (n : Int)) = false := beq_eq_false_iff_ne.2 (by omega)
  have hq1 : ¬ (cap : Int) < (n : Int) + 1 := by omega
  have hq2 : (i : Int) ≤ (n : Int) := by omega
  have hq3 : (n : Int) + 1 ≤ (cap : Int) := by omega
  have hq4 : (i : Int) + 1 ≤ (n : Int) + 1 := by omega
  have hq5 : ¬ cap = i := by omega
  have hq6 : ¬ cap = i + 1 := by omega
  have htn : ((i : Int) + 1).toNat = i + 1 := by omega
  have htn2 : ((n : Int) + 1).toNat = n + 1 := by omega
  have hq7 : (i : Int) ≤ (n : Int) + 1 := by omega
  have hb1 : (0 : Int) ≤ (i : Int) + 1 := by omega
  have hb2 : (0 : Int) ≤ (n : Int) + 1 := by omega
  have HC1 : Hid (∀ ty dc sc, (Builtin.copy_ #[62, 62] ty #[.slice (some ⟨g, (i + 1) * 2, none⟩) (n - i) dc, .slice (some ⟨g, i * 2, none⟩) (n + 1 - i) sc]).run Try.prog w.drew = .ok (goInt (Nat.min (n + 1 - i) (n - i))) W1) := hcp1
  have HC2 : Hid (∀ ty dc, (Builtin.copy_ #[62, 62] ty #[.slice (some ⟨g, i * 2, none⟩) (n + 1 - i) dc, .slice (some ⟨vb, 0, none⟩) 1 1]).run Try.prog W1 = .ok (goInt (Nat.min 1 (n + 1 - i))) W2) := hcp2
  clear hcp1 hcp2 hc1 hc2 hcl1 hcs1 hW1 hW2 hg1 hx1 hcell htake hcs hg hx hxsl hdl hmin1 hmin2 h h1 h1x hxl
  go_enter Try.func48, Try.ntmps48
  go_wp2_with (simp only [hov])
  go_region_law_o (refine step_copy_runK rfl (.tmp 73) (.tmp 76) 62 62 rfl (.slice (some ⟨g, (i + 1) * 2, none⟩) (n - i) (cap - (i + 1))) (.slice (some ⟨g, i * 2, none⟩) (n + 1 - i) (cap - i)) (by simp [Act.eval, Act.put]) (by simp [Act.eval, Act.put]) (HC1.out _ _ _) ?_)
  have hcp2 := HC2.out
  go_wp2
  go_ret
  exact ⟨rfl, hfin.out, hgr.out⟩

set_option maxHeartbeats 2000000 in
set_option maxRecDepth 100000 in
theorem insertN_room (g n cap i N vb : Nat) (xs x : List Value) (w : World) (h : w.ownsRow N 55 1 (.slice (some ⟨g, 0, none⟩) n cap) n xs) (h1 : ∀ u ∈ xs, u.oneCell' = true) (hx : w.heap[vb]? = some (.cells x.toArray 55 (0, 0))) (hxl : x.length = 1) (h1x : ∀ u ∈ x, u.oneCell' = true) (hi : i < n) (hr : n + 1 ≤ cap) (hne : vb ≠ g) :
    Calls Try.prog 52 #[.slice (some ⟨g, 0, none⟩) n cap, .int .i64 (i : Int), .slice (some ⟨vb, 0, none⟩) 1 1] w fun e w' => e = .returned (.slice (some ⟨g, 0, none⟩) (n + 1) cap) ∧ w'.ownsRow N 55 1 (.slice (some ⟨g, 0, none⟩) (n + 1) cap) (n + 1) (xs.take (i * 1) ++ (x ++ xs.drop (i * 1))) ∧ w.grownBy w' (some g) := by
  obtain ⟨cur, hg, hnc, hcm, hcs, htake, hbase, hlt⟩ := own_cell h
  have hxsl : xs.length = n * 1 := h.1
  unfold maxLen at hcm
  have hsz : (Try.prog.info? 55).map (·.size) = some 1 := by kernel_rfl
  have hcell : ∀ t u, xs[t]? = some u → w.cell? ⟨g, t, none⟩ = some u := fun t u hu => own_at h hu
  have hdl : (xs.drop (i * 1)).length = (n - i) * 1 := by rw [List.length_drop, hxsl]; omega
  have hmin1 : Nat.min (n + 1 - i) (n - i) = n - i := by simp only [Nat.min_def]; split <;> omega
  have hmin2 : Nat.min 1 (n + 1 - i) = 1 := by simp only [Nat.min_def]; split <;> omega
  obtain ⟨cur1, hc1⟩ : ∃ cur1, cur1 = (cur.toList.take ((i + 1) * 1) ++ xs.drop (i * 1) ++ cur.toList.drop ((i + 1) * 1 + (xs.drop (i * 1)).length)).toArray := ⟨_, rfl⟩
  have hcl1 : cur1.toList.length = cap * 1 := by
    rw [hc1]
    simp only [List.length_append, List.length_take, List.length_drop, Array.length_toList, hcs, hxsl]
    omega
  have hcs1 : cur1.size = cap * 1 := by rw [← hcl1, Array.length_toList]
  obtain ⟨W1, hW1⟩ : ∃ W1, W1 = w.drew.setRow g cur1 := ⟨_, rfl⟩
  have hg1 : W1.heap[g]? = some (.cells cur1 55 (0, 0)) := by rw [hW1]; exact setRow_heap w.drew g cur cur1 55 _ hg
  have hcp1 := fun ty dc sc => run_copy_rowK (P := Try.prog) w.drew 73 73 ty 55 1 g ((i + 1) * 1) (n - i) dc ⟨g, i * 1, none⟩ (n + 1 - i) sc cur 55 (xs.drop (i * 1)) Try.underlying73 hsz hg (by rw [hdl, hmin1]) (fun j u hu => by rw [List.getElem?_drop] at hu; rw [Addr.add_lit]; exact hcell _ _ hu) (by rw [hdl, hcs]; omega) (fun u hu => h1 u (List.mem_of_mem_drop hu))
  rw [← hc1, ← hW1] at hcp1
  obtain ⟨cur2, hc2⟩ : ∃ cur2, cur2 = (cur1.toList.take (i * 1) ++ x ++ cur1.toList.drop (i * 1 + x.length)).toArray := ⟨_, rfl⟩
  obtain ⟨W2, hW2⟩ : ∃ W2, W2 = W1.setRow g cur2 := ⟨_, rfl⟩
  have hx1 : W1.heap[vb]? = some (.cells x.toArray 55 (0, 0)) := by rw [hW1, setRow_other w.drew g vb cur1 hne]; exact hx
  have hcp2 := fun ty dc => run_copy_rowK (P := Try.prog) W1 73 73 ty 55 1 g (i * 1) (n + 1 - i) dc ⟨vb, 0, none⟩ 1 1 cur1 55 x Try.underlying73 hsz hg1 (by rw [hxl, hmin2]) (fun j u hu => by rw [Addr.add_lit, Nat.zero_add, cell_of_row W1 vb j x.toArray 55 (0, 0) hx1]; simpa using hu) (by rw [hxl, hcs1]; omega) h1x
  rw [← hc2, ← hW2] at hcp2
  have hfin : Hid (W2.ownsRow N 55 1 (.slice (some ⟨g, 0, none⟩) (n + 1) cap) (n + 1) (xs.take (i * 1) ++ (x ++ xs.drop (i * 1)))) := by
    have hg2 : W2.heap[g]? = some (.cells cur2 55 (0, 0)) := by rw [hW2]; exact setRow_heap W1 g cur1 cur2 55 _ hg1
    have hcl2 : cur2.size = cap * 1 := by rw [hc2]; simp only [List.size_toArray, List.length_append, List.length_take, List.length_drop, hcl1, hxl]; omega
    have := own_mk (base := N) (size := 1) (n := n + 1) (cap := cap) hg2 hbase hr (by unfold maxLen; omega) hcl2
    have e : List.take ((n + 1) * 1) cur2.toList = xs.take (i * 1) ++ (x ++ xs.drop (i * 1)) := ?_
    · rw [e] at this; exact this
    have hct : (cur.toList.take ((i + 1) * 1)).length = (i + 1) * 1 := by rw [List.length_take, Array.length_toList, hcs]; omega
    have hit : (cur1.toList.take (i * 1)).length = i * 1 := by rw [List.length_take, hcl1]; omega
    have e1 : cur1.toList.take (i * 1) = xs.take (i * 1) := by
      rw [hc1]
      show List.take _ (_ ++ _ ++ _) = _
      rw [List.append_assoc, List.take_append_of_le_length (by rw [hct]; omega), List.take_take, Nat.min_eq_left (by omega), ← htake, List.take_take, Nat.min_eq_left (by omega)]
    have e2 : (cur1.toList.drop ((i + 1) * 1)).take ((n - i) * 1) = xs.drop (i * 1) := by
      rw [hc1]
      show List.take _ (List.drop _ (_ ++ _ ++ _)) = _
      rw [List.append_assoc, List.drop_append_of_le_length (by rw [hct]; exact Nat.le_refl _), List.drop_of_length_le (by rw [hct]; exact Nat.le_refl _), List.nil_append, List.take_append_of_le_length (by rw [hdl]; exact Nat.le_refl _), List.take_of_length_le (by rw [hdl]; exact Nat.le_refl _)]
    rw [hc2]
    show List.take _ (_ ++ _ ++ _) = _
    rw [hxl, show i * 1 + 1 = (i + 1) * 1 by omega, show (n + 1) * 1 = i * 1 + (1 + (n - i) * 1) by omega, List.append_assoc]
    rw [take_mid _ _ _ _ hit, e1, take_mid _ _ _ _ hxl, e2]
  have hgr : Hid (w.grownBy W2 (some g)) := by
    have a0 : w.grownBy w.drew (some g) := ⟨rfl, rfl, rfl, Nat.le_refl _, fun _ _ _ => rfl⟩
    have a1 : w.drew.grownBy W1 (some g) := by rw [hW1]; exact grown_setRow _ _ _
    have a2 : W1.grownBy W2 (some g) := by rw [hW2]; exact grown_setRow _ _ _
    exact grown_trans (grown_trans a0 a1) a2
  have hov : ∀ lb cb, (callFunc 62 #[.slice (some ⟨vb, 0, none⟩) 1 1, .slice (some ⟨g, (i + 1) * 1, none⟩) lb cb]).run Try.prog w = .ok (.value (.bool false)) w := fun lb cb => by
    rw [run_callFunc_extern Try.func62 (by kernel_rfl) (by kernel_rfl) (by kernel_rfl) (e := Extern.SlicesOverlaps.overlaps #[73, 73] #[4]) (by kernel_rfl),
      Lib.run_overlaps_apart w 73 4 55 Try.underlying73 1 (fun _ => by simp [sizeOf, typeInfo]; rfl) ⟨vb, 0, none⟩ ⟨g, (i + 1) * 1, none⟩ 1 1 lb cb hne 55 55 1 (cap * 1) (by simp [World.shape?, hx, hxl]) (by simp [World.shape?, hg, hcs]) (by omega) (by simp [World.frozen?, hx]) (by simp [World.frozen?, hx])]
    rfl
  have mixed : Try.prog.follows Departure.mixedOrders = true := by kernel_rfl
  have hw1 : IntKind.i64.wrap ((i : Int) + 1) = (i : Int) + 1 := by rw [IntKind.wrap_i64]; omega
  have hw2 : IntKind.i64.wrap ((n : Int) + 1) = (n : Int) + 1 := by rw [IntKind.wrap_i64]; omega
  have hq0 : ((i : Int) == (n : Int)) = false := beq_eq_false_iff_ne.2 (by omega)
  have hq1 : ¬ (cap : Int) < (n : Int) + 1 := by omega
  have hq2 : (i : Int) ≤ (n : Int) := by omega
  have hq3 : (n : Int) + 1 ≤ (cap : Int) := by omega
  have hq4 : (i : Int) + 1 ≤ (n : Int) + 1 := by omega
  have hq5 : ¬ cap = i := by omega
  have hq6 : ¬ cap = i + 1 := by omega
  have htn : ((i : Int) + 1).toNat = i + 1 := by omega
  have htn2 : ((n : Int) + 1).toNat = n + 1 := by omega
  have hq7 : (i : Int) ≤ (n : Int) + 1 := by omega
  have hb1 : (0 : Int) ≤ (i : Int) + 1 := by omega
  have hb2 : (0 : Int) ≤ (n : Int) + 1 := by omega
  have HC1 : Hid (∀ ty dc sc, (Builtin.copy_ #[73, 73] ty #[.slice (some ⟨g, (i + 1) * 1, none⟩) (n - i) dc, .slice (some ⟨g, i * 1, none⟩) (n + 1 - i) sc]).run Try.prog w.drew = .ok (goInt (Nat.min (n + 1 - i) (n - i))) W1) := hcp1
  have HC2 : Hid (∀ ty dc, (Builtin.copy_ #[73, 73] ty #[.slice (some ⟨g, i * 1, none⟩) (n + 1 - i) dc, .slice (some ⟨vb, 0, none⟩) 1 1]).run Try.prog W1 = .ok (goInt (Nat.min 1 (n + 1 - i))) W2) := hcp2
  clear hcp1 hcp2 hc1 hc2 hcl1 hcs1 hW1 hW2 hg1 hx1 hcell htake hcs hg hx hxsl hdl hmin1 hmin2 h h1 h1x hxl
  simp only [Nat.mul_one] at hov
  go_enter Try.func52, Try.ntmps52
  go_wp2_with (simp only [hov])
  go_region_law_o (refine step_copy_runK rfl (.tmp 73) (.tmp 76) 73 73 rfl (.slice (some ⟨g, (i + 1) * 1, none⟩) (n - i) (cap - (i + 1))) (.slice (some ⟨g, i * 1, none⟩) (n + 1 - i) (cap - i)) (by simp [Act.eval, Act.put]) (by simp [Act.eval, Act.put]) (HC1.out _ _ _) ?_)
  have hcp2 := HC2.out
  simp only [Nat.mul_one] at hcp2
  go_wp2
  go_ret
  exact ⟨rfl, hfin.out, hgr.out⟩

set_option maxHeartbeats 2000000 in
set_option maxRecDepth 100000 in
theorem insertE_grow (g n cap i N vb : Nat) (xs x : List Value) (w : World) (h : w.ownsRow N 65 2 (.slice (some ⟨g, 0, none⟩) n cap) n xs) (h1 : ∀ u ∈ xs, u.oneCell' = true) (hx : w.heap[vb]? = some (.cells x.toArray 65 (0, 0))) (hxl : x.length = 2) (h1x : ∀ u ∈ x, u.oneCell' = true) (hi : i < n) (hr : ¬ n + 1 ≤ cap) (hn : n ≤ 1000) (hN : N ≤ w.heap.size) :
    Calls Try.prog 48 #[.slice (some ⟨g, 0, none⟩) n cap, .int .i64 (i : Int), .slice (some ⟨vb, 0, none⟩) 1 1] w fun e w' => ∃ gc, e = .returned (.slice (some ⟨w.heap.size, 0, none⟩) (n + 1) gc) ∧ w'.ownsRow N 65 2 (.slice (some ⟨w.heap.size, 0, none⟩) (n + 1) gc) (n + 1) (xs.take (i * 2) ++ (x ++ xs.drop (i * 2))) ∧ w.grownBy w' (some g) := by
  obtain ⟨i0, hi0, hz0, hz1, hz2⟩ := info_parts infoE
  obtain ⟨cur, hg, hnc, hcm, hcs, htake, hbase, hlt⟩ := own_cell h
  have hxsl : xs.length = n * 2 := h.1
  have hsz : (Try.prog.info? 65).map (·.size) = some 2 := by kernel_rfl
  have hcell : ∀ t u, xs[t]? = some u → w.cell? ⟨g, t, none⟩ = some u := fun t u hu => own_at h hu
  have hdl : (xs.drop (i * 2)).length = (n - i) * 2 := by rw [List.length_drop, hxsl]; omega
  have hmin2 : Nat.min 1 (n + 1 - i) = 1 := by simp only [Nat.min_def]; split <;> omega
  have hmin1 : Nat.min (n - i) (n - i) = n - i := by simp only [Nat.min_def]; split <;> omega
  obtain ⟨hh, hhe⟩ : ∃ hh, hh = w.heap.size := ⟨_, rfl⟩
  obtain ⟨gc, hgc⟩ : ∃ gc, gc = grownCap w (n + 1) cap 65 := ⟨_, rfl⟩
  have hge : n + 1 ≤ gc := by rw [hgc]; exact grownCap_ge w (n + 1) cap 65
  have hgm : gc ≤ maxLen := by rw [hgc]; exact grownCap_le_maxLen w (n + 1) cap 65 (by unfold maxLen; omega)
  have hal : (xs.take (i * 2)).length = i * 2 := by rw [List.length_take, hxsl]; omega
  obtain ⟨cur0, hc0⟩ : ∃ cur0, cur0 = (xs.take (i * 2)).toArray ++ Builtin.zeroCells (.agg #[.string ⟨#[]⟩, .int .i64 0] : Value).cells (n + 1 - i) ++ Builtin.zeroCells (.agg #[.string ⟨#[]⟩, .int .i64 0] : Value).cells (gc - (n + 1)) := ⟨_, rfl⟩
  have hap := fun ty => run_append_grow_zeros (P := Try.prog) w 62 3 ty 65 i0 (.agg #[.string ⟨#[]⟩, .int .i64 0]) .i64 .i64 Try.underlying62 Try.underlying3 hi0 hz0 (some ⟨g, 0, none⟩) i cap (xs.take (i * 2)) (run_firstCells_some w.drew i0.size i ⟨g, 0, none⟩ i cap (xs.take (i * 2)) (by rw [hz1]; exact hal) (fun j u hu => by
    rw [Addr.add_lit, Nat.zero_add]
    rw [List.getElem?_take] at hu
    split at hu
    · exact hcell j u hu
    · cases hu)) (n + 1 - i) (by omega) (by omega) (by omega) (by omega) (by rw [hz2]; omega) (growslice_fits (by omega) (by rw [hz2]; omega))
  rw [show i + (n + 1 - i) = n + 1 by omega, ← hgc, ← hc0, ← hhe] at hap
  obtain ⟨W0, hW0⟩ : ∃ W0, W0 = w.drew.alloc (.cells cur0 65) := ⟨_, rfl⟩
  have hg0 : W0.heap[hh]? = some (.cells cur0 65 (0, 0)) := by rw [hW0, hhe]; exact heap_alloc_new w.drew _
  have hold0 : ∀ k, k < hh → W0.heap[k]? = w.heap[k]? := fun k hk => by rw [hW0]; exact Below.heap_alloc w.drew _ k (by rw [hhe] at hk; exact hk)
  rw [← hW0] at hap
  have hcs0 : cur0.size = gc * 2 := by rw [hc0]; simp only [Array.size_append, List.size_toArray, hal, size_zeroCells]; simp only [Value.cells, List.size_toArray, List.length_cons, List.length_nil]; omega
  have hvl : vb < hh := by rw [hhe]; exact (Array.getElem?_eq_some_iff.1 hx).1
  obtain ⟨cur1, hc1⟩ : ∃ cur1, cur1 = (cur0.toList.take (i * 2) ++ x ++ cur0.toList.drop (i * 2 + x.length)).toArray := ⟨_, rfl⟩
  have hcl1 : cur1.toList.length = gc * 2 := by
    rw [hc1]
    simp only [List.length_append, List.length_take, List.length_drop, Array.length_toList, hcs0, hxl]
    omega
  have hcs1 : cur1.size = gc * 2 := by rw [← hcl1, Array.length_toList]
  obtain ⟨W1, hW1⟩ : ∃ W1, W1 = W0.setRow hh cur1 := ⟨_, rfl⟩
  have hg1 : W1.heap[hh]? = some (.cells cur1 65 (0, 0)) := by rw [hW1]; exact setRow_heap W0 hh cur0 cur1 65 _ hg0
  have hx0 : W0.heap[vb]? = some (.cells x.toArray 65 (0, 0)) := by rw [hold0 vb hvl]; exact hx
  have hcp1 := fun ty dc => run_copy_rowK (P := Try.prog) W0 62 62 ty 65 2 hh (i * 2) (n + 1 - i) dc ⟨vb, 0, none⟩ 1 1 cur0 65 x Try.underlying62 hsz hg0 (by rw [hxl, hmin2]) (fun j u hu => by rw [Addr.add_lit, Nat.zero_add, cell_of_row W0 vb j x.toArray 65 (0, 0) hx0]; simpa using hu) (by rw [hxl, hcs0]; omega) h1x
  rw [← hc1, ← hW1] at hcp1
  obtain ⟨cur2, hc2⟩ : ∃ cur2, cur2 = (cur1.toList.take ((i + 1) * 2) ++ xs.drop (i * 2) ++ cur1.toList.drop ((i + 1) * 2 + (xs.drop (i * 2)).length)).toArray := ⟨_, rfl⟩
  obtain ⟨W2, hW2⟩ : ∃ W2, W2 = W1.drew.setRow hh cur2 := ⟨_, rfl⟩
  have hgW1 : W1.heap[g]? = w.heap[g]? := by rw [hW1, setRow_other W0 hh g cur1 (by omega)]; exact hold0 g (by omega)
  have hcp2 := fun ty dc sc => run_copy_rowK (P := Try.prog) W1.drew 62 62 ty 65 2 hh ((i + 1) * 2) (n - i) dc ⟨g, i * 2, none⟩ (n - i) sc cur1 65 (xs.drop (i * 2)) Try.underlying62 hsz hg1 (by rw [hdl, hmin1]) (fun j u hu => by
    rw [List.getElem?_drop] at hu
    rw [Addr.add_lit]
    exact (World.cell?_of_block (w := w) (w' := W1) (a := ⟨g, i * 2 + j, none⟩) hgW1).trans (hcell _ _ hu)) (by rw [hdl, hcs1]; omega) (fun u hu => h1 u (List.mem_of_mem_drop hu))
  rw [← hc2, ← hW2] at hcp2
  have hfin : Hid (W2.ownsRow N 65 2 (.slice (some ⟨hh, 0, none⟩) (n + 1) gc) (n + 1) (xs.take (i * 2) ++ (x ++ xs.drop (i * 2)))) := by
    have hg2 : W2.heap[hh]? = some (.cells cur2 65 (0, 0)) := by rw [hW2]; exact setRow_heap W1.drew hh cur1 cur2 65 _ hg1
    have hcl2 : cur2.size = gc * 2 := by rw [hc2]; simp only [List.size_toArray, List.length_append, List.length_take, List.length_drop, hcl1, hxsl]; omega
    have := own_mk (base := N) (size := 2) (n := n + 1) (cap := gc) hg2 (by omega) hge hgm hcl2
    have e : List.take ((n + 1) * 2) cur2.toList = xs.take (i * 2) ++ (x ++ xs.drop (i * 2)) := ?_
    · rw [e] at this; exact this
    have e0 : cur0.toList.take (i * 2) = xs.take (i * 2) := by
      rw [hc0]
      simp only [Array.toList_append, List.append_assoc]
      rw [List.take_append_of_le_length (by rw [hal]; exact Nat.le_refl _), List.take_of_length_le (by rw [hal]; exact Nat.le_refl _)]
    have e1 : cur1.toList.take ((i + 1) * 2) = xs.take (i * 2) ++ x := by
      rw [hc1]
      show List.take _ (_ ++ _ ++ _) = _
      rw [e0, List.take_append_of_le_length (by rw [List.length_append, hal, hxl]; omega), List.take_of_length_le (by rw [List.length_append, hal, hxl]; omega)]
    rw [hc2]
    show List.take _ (_ ++ _ ++ _) = _
    rw [e1, List.take_append_of_le_length (by rw [List.length_append, List.length_append, hal, hxl, hdl]; omega), List.take_of_length_le (by rw [List.length_append, List.length_append, hal, hxl, hdl]; omega), List.append_assoc]
  have hgr : Hid (w.grownBy W2 (some g)) := by
    have a0 : w.grownBy W0 (some g) := by
      rw [hW0]
      exact ⟨rfl, rfl, rfl, by simp, fun k hk _ => Below.heap_alloc w.drew _ k hk⟩
    have a1 := grown_setRow W0 hh cur1
    have a2 := grown_setRow W1.drew hh cur2
    rw [← hW1] at a1
    rw [← hW2] at a2
    have hs0 := a0.size
    exact ⟨(a2.os.trans a1.os).trans a0.os, (a2.tape.trans a1.tape).trans a0.tape, (a2.output.trans a1.output).trans a0.output, Nat.le_trans a0.size (Nat.le_trans a1.size a2.size), fun k hk hne =>
      (a2.block k (Nat.lt_of_lt_of_le hk (Nat.le_trans hs0 a1.size)) (fun e => by cases e; omega)).trans ((a1.block k (Nat.lt_of_lt_of_le hk hs0) (fun e => by cases e; omega)).trans (a0.block k hk hne))⟩
  have mixed : Try.prog.follows Departure.mixedOrders = true := by kernel_rfl
  have hw1 : IntKind.i64.wrap ((i : Int) + 1) = (i : Int) + 1 := by rw [IntKind.wrap_i64]; omega
  have hw2 : IntKind.i64.wrap ((n : Int) + 1) = (n : Int) + 1 := by rw [IntKind.wrap_i64]; omega
  have hq0 : ((i : Int) == (n : Int)) = false := beq_eq_false_iff_ne.2 (by omega)
  have hq1 : (cap : Int) < (n : Int) + 1 := by omega
  have hq2 : (i : Int) ≤ (n : Int) := by omega
  have hq3 : (i : Int) ≤ (cap : Int) := by omega
  have hq4 : (i : Int) + 1 ≤ (n : Int) + 1 := by omega
  have hq5 : ¬ cap = i := by omega
  have hq6 : ¬ gc = i + 1 := by omega
  have hq8 : ¬ gc = i := by omega
  have hq7 : (i : Int) ≤ (n : Int) + 1 := by omega
  have htn : ((i : Int) + 1).toNat = i + 1 := by omega
  have htn2 : ((n : Int) + 1).toNat = n + 1 := by omega
  have hb1 : (0 : Int) ≤ (i : Int) + 1 := by omega
  have hb2 : (0 : Int) ≤ (n : Int) + 1 := by omega
  have HC1 : Hid (∀ ty dc, (Builtin.copy_ #[62, 62] ty #[.slice (some ⟨hh, i * 2, none⟩) (n + 1 - i) dc, .slice (some ⟨vb, 0, none⟩) 1 1]).run Try.prog W0 = .ok (goInt (Nat.min 1 (n + 1 - i))) W1) := hcp1
  have HC2 : Hid (∀ ty dc sc, (Builtin.copy_ #[62, 62] ty #[.slice (some ⟨hh, (i + 1) * 2, none⟩) (n - i) dc, .slice (some ⟨g, i * 2, none⟩) (n - i) sc]).run Try.prog W1.drew = .ok (goInt (Nat.min (n - i) (n - i))) W2) := hcp2
  have HAP : Hid (∀ ty, (Builtin.append_ #[62, 3] ty #[.slice (some ⟨g, 0, none⟩) i cap, .int .i64 ((n + 1 - i : Nat) : Int)]).run Try.prog w = .ok (.slice (some ⟨hh, 0, none⟩) (n + 1) gc) W0) := hap
  have HHE : Hid (hh = w.heap.size) := hhe
  have hkk : ((n : Int) + 1 - (i : Int)) = ((n + 1 - i : Nat) : Int) := by omega
  clear hcp1 hcp2 hap hc0 hc1 hc2 hcl1 hcs1 hcs0 hW0 hW1 hW2 hg0 hg1 hx0 hcell htake hcs hg hx hxsl hdl hmin1 hmin2 h h1 h1x hxl hgc hhe hold0 hgW1 hvl hal
  go_enter Try.func48, Try.ntmps48
  have hcp1 := HC1.out
  go_wp2_with (at_builtin; refine Lib.wpList_append_run _ rfl (.tmp 34) (.tmp 39) 62 3 rfl _ _ (by simp [Act.eval]) (by simp [Act.eval]) _ _ (HAP.out _) ?_)
  go_region_law_o (refine step_copy_runK rfl (.tmp 50) (.tmp 53) 62 62 rfl (.slice (some ⟨hh, (i + 1) * 2, none⟩) (n - i) (gc - (i + 1))) (.slice (some ⟨g, i * 2, none⟩) (n - i) (cap - i)) (by simp [Act.eval, Act.put]) (by simp [Act.eval, Act.put]) (HC2.out _ _ _) ?_)
  go_wp2
  go_ret
  rw [← HHE.out]
  exact ⟨gc, rfl, hfin.out, hgr.out⟩

set_option maxHeartbeats 2000000 in
set_option maxRecDepth 100000 in
theorem insertN_grow (g n cap i N vb : Nat) (xs x : List Value) (w : World) (h : w.ownsRow N 55 1 (.slice (some ⟨g, 0, none⟩) n cap) n xs) (h1 : ∀ u ∈ xs, u.oneCell' = true) (hx : w.heap[vb]? = some (.cells x.toArray 55 (0, 0))) (hxl : x.length = 1) (h1x : ∀ u ∈ x, u.oneCell' = true) (hi : i < n) (hr : ¬ n + 1 ≤ cap) (hn : n ≤ 1000) (hN : N ≤ w.heap.size) :
    Calls Try.prog 52 #[.slice (some ⟨g, 0, none⟩) n cap, .int .i64 (i : Int), .slice (some ⟨vb, 0, none⟩) 1 1] w fun e w' => ∃ gc, e = .returned (.slice (some ⟨w.heap.size, 0, none⟩) (n + 1) gc) ∧ w'.ownsRow N 55 1 (.slice (some ⟨w.heap.size, 0, none⟩) (n + 1) gc) (n + 1) (xs.take (i * 1) ++ (x ++ xs.drop (i * 1))) ∧ w.grownBy w' (some g) := by
  obtain ⟨i0, hi0, hz0, hz1, hz2⟩ := info_parts infoN
  obtain ⟨cur, hg, hnc, hcm, hcs, htake, hbase, hlt⟩ := own_cell h
  have hxsl : xs.length = n * 1 := h.1
  have hsz : (Try.prog.info? 55).map (·.size) = some 1 := by kernel_rfl
  have hcell : ∀ t u, xs[t]? = some u → w.cell? ⟨g, t, none⟩ = some u := fun t u hu => own_at h hu
  have hdl : (xs.drop (i * 1)).length = (n - i) * 1 := by rw [List.length_drop, hxsl]; omega
  have hmin2 : Nat.min 1 (n + 1 - i) = 1 := by simp only [Nat.min_def]; split <;> omega
  have hmin1 : Nat.min (n - i) (n - i) = n - i := by simp only [Nat.min_def]; split <;> omega
  obtain ⟨hh, hhe⟩ : ∃ hh, hh = w.heap.size := ⟨_, rfl⟩
  obtain ⟨gc, hgc⟩ : ∃ gc, gc = grownCap w (n + 1) cap 55 := ⟨_, rfl⟩
  have hge : n + 1 ≤ gc := by rw [hgc]; exact grownCap_ge w (n + 1) cap 55
  have hgm : gc ≤ maxLen := by rw [hgc]; exact grownCap_le_maxLen w (n + 1) cap 55 (by unfold maxLen; omega)
  have hal : (xs.take (i * 1)).length = i * 1 := by rw [List.length_take, hxsl]; omega
  obtain ⟨cur0, hc0⟩ : ∃ cur0, cur0 = (xs.take (i * 1)).toArray ++ Builtin.zeroCells (.pointer none : Value).cells (n + 1 - i) ++ Builtin.zeroCells (.pointer none : Value).cells (gc - (n + 1)) := ⟨_, rfl⟩
  have hap := fun ty => run_append_grow_zeros (P := Try.prog) w 73 3 ty 55 i0 (.pointer none) .i64 .i64 Try.underlying73 Try.underlying3 hi0 hz0 (some ⟨g, 0, none⟩) i cap (xs.take (i * 1)) (run_firstCells_some w.drew i0.size i ⟨g, 0, none⟩ i cap (xs.take (i * 1)) (by rw [hz1]; exact hal) (fun j u hu => by
    rw [Addr.add_lit, Nat.zero_add]
    rw [List.getElem?_take] at hu
    split at hu
    · exact hcell j u hu
    · cases hu)) (n + 1 - i) (by omega) (by omega) (by omega) (by omega) (by rw [hz2]; omega) (growslice_fits (by omega) (by rw [hz2]; omega))
  rw [show i + (n + 1 - i) = n + 1 by omega, ← hgc, ← hc0, ← hhe] at hap
  obtain ⟨W0, hW0⟩ : ∃ W0, W0 = w.drew.alloc (.cells cur0 55) := ⟨_, rfl⟩
  have hg0 : W0.heap[hh]? = some (.cells cur0 55 (0, 0)) := by rw [hW0, hhe]; exact heap_alloc_new w.drew _
  have hold0 : ∀ k, k < hh → W0.heap[k]? = w.heap[k]? := fun k hk => by rw [hW0]; exact Below.heap_alloc w.drew _ k (by rw [hhe] at hk; exact hk)
  rw [← hW0] at hap
  have hcs0 : cur0.size = gc * 1 := by rw [hc0]; simp only [Array.size_append, List.size_toArray, hal, size_zeroCells]; simp only [Value.cells, List.size_toArray, List.length_cons, List.length_nil]; omega
  have hvl : vb < hh := by rw [hhe]; exact (Array.getElem?_eq_some_iff.1 hx).1
  obtain ⟨cur1, hc1⟩ : ∃ cur1, cur1 = (cur0.toList.take (i * 1) ++ x ++ cur0.toList.drop (i * 1 + x.length)).toArray := ⟨_, rfl⟩
  have hcl1 : cur1.toList.length = gc * 1 := by
    rw [hc1]
    simp only [List.length_append, List.length_take, List.length_drop, Array.length_toList, hcs0, hxl]
    omega
  have hcs1 : cur1.size = gc * 1 := by rw [← hcl1, Array.length_toList]
  obtain ⟨W1, hW1⟩ : ∃ W1, W1 = W0.setRow hh cur1 := ⟨_, rfl⟩
  have hg1 : W1.heap[hh]? = some (.cells cur1 55 (0, 0)) := by rw [hW1]; exact setRow_heap W0 hh cur0 cur1 55 _ hg0
  have hx0 : W0.heap[vb]? = some (.cells x.toArray 55 (0, 0)) := by rw [hold0 vb hvl]; exact hx
  have hcp1 := fun ty dc => run_copy_rowK (P := Try.prog) W0 73 73 ty 55 1 hh (i * 1) (n + 1 - i) dc ⟨vb, 0, none⟩ 1 1 cur0 55 x Try.underlying73 hsz hg0 (by rw [hxl, hmin2]) (fun j u hu => by rw [Addr.add_lit, Nat.zero_add, cell_of_row W0 vb j x.toArray 55 (0, 0) hx0]; simpa using hu) (by rw [hxl, hcs0]; omega) h1x
  rw [← hc1, ← hW1] at hcp1
  obtain ⟨cur2, hc2⟩ : ∃ cur2, cur2 = (cur1.toList.take ((i + 1) * 1) ++ xs.drop (i * 1) ++ cur1.toList.drop ((i + 1) * 1 + (xs.drop (i * 1)).length)).toArray := ⟨_, rfl⟩
  obtain ⟨W2, hW2⟩ : ∃ W2, W2 = W1.drew.setRow hh cur2 := ⟨_, rfl⟩
  have hgW1 : W1.heap[g]? = w.heap[g]? := by rw [hW1, setRow_other W0 hh g cur1 (by omega)]; exact hold0 g (by omega)
  have hcp2 := fun ty dc sc => run_copy_rowK (P := Try.prog) W1.drew 73 73 ty 55 1 hh ((i + 1) * 1) (n - i) dc ⟨g, i * 1, none⟩ (n - i) sc cur1 55 (xs.drop (i * 1)) Try.underlying73 hsz hg1 (by rw [hdl, hmin1]) (fun j u hu => by
    rw [List.getElem?_drop] at hu
    rw [Addr.add_lit]
    exact (World.cell?_of_block (w := w) (w' := W1) (a := ⟨g, i * 1 + j, none⟩) hgW1).trans (hcell _ _ hu)) (by rw [hdl, hcs1]; omega) (fun u hu => h1 u (List.mem_of_mem_drop hu))
  rw [← hc2, ← hW2] at hcp2
  have hfin : Hid (W2.ownsRow N 55 1 (.slice (some ⟨hh, 0, none⟩) (n + 1) gc) (n + 1) (xs.take (i * 1) ++ (x ++ xs.drop (i * 1)))) := by
    have hg2 : W2.heap[hh]? = some (.cells cur2 55 (0, 0)) := by rw [hW2]; exact setRow_heap W1.drew hh cur1 cur2 55 _ hg1
    have hcl2 : cur2.size = gc * 1 := by rw [hc2]; simp only [List.size_toArray, List.length_append, List.length_take, List.length_drop, hcl1, hxsl]; omega
    have := own_mk (base := N) (size := 1) (n := n + 1) (cap := gc) hg2 (by omega) hge hgm hcl2
    have e : List.take ((n + 1) * 1) cur2.toList = xs.take (i * 1) ++ (x ++ xs.drop (i * 1)) := ?_
    · rw [e] at this; exact this
    have e0 : cur0.toList.take (i * 1) = xs.take (i * 1) := by
      rw [hc0]
      simp only [Array.toList_append, List.append_assoc]
      rw [List.take_append_of_le_length (by rw [hal]; exact Nat.le_refl _), List.take_of_length_le (by rw [hal]; exact Nat.le_refl _)]
    have e1 : cur1.toList.take ((i + 1) * 1) = xs.take (i * 1) ++ x := by
      rw [hc1]
      show List.take _ (_ ++ _ ++ _) = _
      rw [e0, List.take_append_of_le_length (by rw [List.length_append, hal, hxl]; omega), List.take_of_length_le (by rw [List.length_append, hal, hxl]; omega)]
    rw [hc2]
    show List.take _ (_ ++ _ ++ _) = _
    rw [e1, List.take_append_of_le_length (by rw [List.length_append, List.length_append, hal, hxl, hdl]; omega), List.take_of_length_le (by rw [List.length_append, List.length_append, hal, hxl, hdl]; omega), List.append_assoc]
  have hgr : Hid (w.grownBy W2 (some g)) := by
    have a0 : w.grownBy W0 (some g) := by
      rw [hW0]
      exact ⟨rfl, rfl, rfl, by simp, fun k hk _ => Below.heap_alloc w.drew _ k hk⟩
    have a1 := grown_setRow W0 hh cur1
    have a2 := grown_setRow W1.drew hh cur2
    rw [← hW1] at a1
    rw [← hW2] at a2
    have hs0 := a0.size
    exact ⟨(a2.os.trans a1.os).trans a0.os, (a2.tape.trans a1.tape).trans a0.tape, (a2.output.trans a1.output).trans a0.output, Nat.le_trans a0.size (Nat.le_trans a1.size a2.size), fun k hk hne =>
      (a2.block k (Nat.lt_of_lt_of_le hk (Nat.le_trans hs0 a1.size)) (fun e => by cases e; omega)).trans ((a1.block k (Nat.lt_of_lt_of_le hk hs0) (fun e => by cases e; omega)).trans (a0.block k hk hne))⟩
  have mixed : Try.prog.follows Departure.mixedOrders = true := by kernel_rfl
  have hw1 : IntKind.i64.wrap ((i : Int) + 1) = (i : Int) + 1 := by rw [IntKind.wrap_i64]; omega
  have hw2 : IntKind.i64.wrap ((n : Int) + 1) = (n : Int) + 1 := by rw [IntKind.wrap_i64]; omega
  have hq0 : ((i : Int) == (n : Int)) = false := beq_eq_false_iff_ne.2 (by omega)
  have hq1 : (cap : Int) < (n : Int) + 1 := by omega
  have hq2 : (i : Int) ≤ (n : Int) := by omega
  have hq3 : (i : Int) ≤ (cap : Int) := by omega
  have hq4 : (i : Int) + 1 ≤ (n : Int) + 1 := by omega
  have hq5 : ¬ cap = i := by omega
  have hq6 : ¬ gc = i + 1 := by omega
  have hq8 : ¬ gc = i := by omega
  have hq7 : (i : Int) ≤ (n : Int) + 1 := by omega
  have htn : ((i : Int) + 1).toNat = i + 1 := by omega
  have htn2 : ((n : Int) + 1).toNat = n + 1 := by omega
  have hb1 : (0 : Int) ≤ (i : Int) + 1 := by omega
  have hb2 : (0 : Int) ≤ (n : Int) + 1 := by omega
  have HC1 : Hid (∀ ty dc, (Builtin.copy_ #[73, 73] ty #[.slice (some ⟨hh, i * 1, none⟩) (n + 1 - i) dc, .slice (some ⟨vb, 0, none⟩) 1 1]).run Try.prog W0 = .ok (goInt (Nat.min 1 (n + 1 - i))) W1) := hcp1
  have HC2 : Hid (∀ ty dc sc, (Builtin.copy_ #[73, 73] ty #[.slice (some ⟨hh, (i + 1) * 1, none⟩) (n - i) dc, .slice (some ⟨g, i * 1, none⟩) (n - i) sc]).run Try.prog W1.drew = .ok (goInt (Nat.min (n - i) (n - i))) W2) := hcp2
  have HAP : Hid (∀ ty, (Builtin.append_ #[73, 3] ty #[.slice (some ⟨g, 0, none⟩) i cap, .int .i64 ((n + 1 - i : Nat) : Int)]).run Try.prog w = .ok (.slice (some ⟨hh, 0, none⟩) (n + 1) gc) W0) := hap
  have HHE : Hid (hh = w.heap.size) := hhe
  have hkk : ((n : Int) + 1 - (i : Int)) = ((n + 1 - i : Nat) : Int) := by omega
  clear hcp1 hcp2 hap hc0 hc1 hc2 hcl1 hcs1 hcs0 hW0 hW1 hW2 hg0 hg1 hx0 hcell htake hcs hg hx hxsl hdl hmin1 hmin2 h h1 h1x hxl hgc hhe hold0 hgW1 hvl hal
  go_enter Try.func52, Try.ntmps52
  have hcp1 := HC1.out
  simp only [Nat.mul_one] at hcp1
  go_wp2_with (at_builtin; refine Lib.wpList_append_run _ rfl (.tmp 34) (.tmp 39) 73 3 rfl _ _ (by simp [Act.eval]) (by simp [Act.eval]) _ _ (HAP.out _) ?_)
  go_region_law_o (refine step_copy_runK rfl (.tmp 50) (.tmp 53) 73 73 rfl (.slice (some ⟨hh, (i + 1) * 1, none⟩) (n - i) (gc - (i + 1))) (.slice (some ⟨g, i * 1, none⟩) (n - i) (cap - i)) (by simp [Act.eval, Act.put]) (by simp [Act.eval, Act.put]) (HC2.out _ _ _) ?_)
  go_wp2
  go_ret
  rw [← HHE.out]
  exact ⟨gc, rfl, hfin.out, hgr.out⟩
end Go.Proofs.Ytmdembfnpmlmaaa
