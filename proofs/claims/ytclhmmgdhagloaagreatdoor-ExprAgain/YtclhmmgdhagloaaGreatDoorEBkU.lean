/-
  What is printed is read back: every expression.
-/
import Derived.Test.YtclhmmgdhagloaaGreatDoorEBkR
namespace Go.Proofs.YtclhmmgdhagloaaGreatDoor

theorem put_app {acc : List Nd} (x : Nd) (h : acc.length ≤ 256) : putN acc x = acc ++ [x] := by unfold putN; rw [if_pos h]
theorem nameL_no {nm : List UInt8} (h : nameL nm = true) : (nm == [45]) = false ∧ (nm == [40]) = false ∧ resL nm = false := by
  refine ⟨?_, ?_, ?_⟩
  · rw [beq_eq_false_iff_ne]; rintro rfl; exact absurd h (by decide)
  · rw [beq_eq_false_iff_ne]; rintro rfl; exact absurd h (by decide)
  · unfold nameL at h
    simp at h
    exact h.2
theorem argT_len : ∀ (ss : List (List Kt)) (s : List Kt), s ∈ ss → s.length + 1 ≤ (argT ss).length := by
  intro ss
  induction ss with
  | nil => intro s h; cases h
  | cons x r ih =>
    intro s h
    cases r with
    | nil =>
      simp at h
      subst h
      simp [argT]
    | cons y r =>
      show s.length + 1 ≤ (x ++ (2, [44]) :: argT (y :: r)).length
      simp only [List.length_append, List.length_cons]
      rcases List.mem_cons.1 h with rfl | h
      · omega
      · have := ih s h; omega

theorem args_rd {N : Nat → Ti} {part : Nat → List Nd → Rz} : ∀ (ax : List (List Nd × List UInt8 × List Kt)), ax ≠ [] →
    (∀ a ∈ ax, ∀ k acc, Seg N k a.2.2 → acc.length + a.1.length ≤ 256 → Clo (N (k + a.2.2.length)).t → part k acc = (0, k + a.2.2.length, acc ++ a.1)) →
    ∀ m k acc c, ax.length ≤ m → Seg N k (argT (ax.map (·.2.2))) → acc.length + (ax.map (·.1)).flatten.length ≤ 256 →
    argsL N part m k acc c = ((0, k + (argT (ax.map (·.2.2))).length, acc ++ (ax.map (·.1)).flatten), c + ax.length) := by
  intro ax
  induction ax with
  | nil => intro h; exact absurd rfl h
  | cons a r ih =>
    intro _ hp m k acc c hm hs hacc
    obtain ⟨m, rfl⟩ : ∃ j, m = j + 1 := ⟨m - 1, by simp at hm; omega⟩
    cases r with
    | nil =>
      have hs' : Seg N k (a.2.2 ++ [(2, [41])]) := hs
      have h41 : (N (k + a.2.2.length)).t = [41] := hs'.right.head.2
      have hpa := hp a (by simp) k acc hs'.left (by simpa using hacc) (Or.inl h41)
      unfold argsL
      rw [hpa, if_pos rfl]
      simp only
      rw [h41, if_neg (by decide), if_pos (by decide)]
      simp [argT, Nat.add_assoc]
    | cons b r =>
      have hs' : Seg N k (a.2.2 ++ (2, [44]) :: argT ((b :: r).map (·.2.2))) := hs
      have h44 : (N (k + a.2.2.length)).t = [44] := hs'.right.head.2
      have hpa := hp a (by simp) k acc hs'.left (by simp at hacc; omega) (Or.inr (Or.inl h44))
      unfold argsL
      rw [hpa, if_pos rfl]
      simp only
      rw [h44, if_pos (by decide)]
      rw [ih (by simp) (fun x hx => hp x (by simp at hx ⊢; exact Or.inr hx)) m _ _ _ (by simp at hm ⊢; omega) hs'.right.tail (by simp at hacc ⊢; omega)]
      have e : argT ((a :: b :: r).map (·.2.2)) = a.2.2 ++ (2, [44]) :: argT ((b :: r).map (·.2.2)) := rfl
      rw [e]
      simp only [List.length_append, List.length_cons, List.map_cons, List.flatten_cons, List.append_assoc, Prod.mk.injEq, and_true, true_and]
      omega

theorem rd_un {V : List UInt8 → Option Va} {l : List Nd} {t : List UInt8} {s : List Kt} {d : Nat} (h : Tr V l t s d) :
    ∀ (N : Nat → Ti) (M n k o : Nat) (acc : List Nd), Seg N k s → 2 ≤ M → 8 * s.length ≤ n → o + 2 * d ≤ 64 → acc.length + l.length ≤ 256 → ((N (k + s.length)).t == [40]) = false → ((N (k + s.length)).t == [46]) = false →
    rdx N V M n .un k acc o = (0, k + s.length, acc ++ l) := by
  induction h with
  | val v T kk d h1 h6 h7 h2 h3 h5 h4 =>
    intro N M n k o acc hs hM hn ho hacc _ _
    obtain ⟨n, rfl⟩ : ∃ j, n = j + 1 := ⟨n - 1, by simp at hn; omega⟩
    have ht : (N k).t = T := hs.head.2
    unfold rdx
    rw [ht, if_neg (by rw [h2]; simp), if_neg (by rw [h3]; simp), h1]
    simp only
    rw [put_app _ (by simp at hacc; omega)]
    simp
  | col1 nm d h1 h2 =>
    intro N M n k o acc hs hM hn ho hacc hx1 hx2
    obtain ⟨n, rfl⟩ : ∃ j, n = j + 1 := ⟨n - 1, by simp at hn; omega⟩
    obtain ⟨hk, ht⟩ := hs.head
    simp only at hk ht
    obtain ⟨e1, e2, e3⟩ := nameL_no h1
    have hnm : nmT (N k) = true := by unfold nmT; rw [hk, ht, e3]; rfl
    simp only [List.length_cons, List.length_nil, Nat.zero_add] at hx1 hx2
    unfold rdx
    rw [ht, if_neg (by rw [e1]; simp), if_neg (by rw [e2]; simp), h2]
    simp only
    unfold colF
    rw [if_pos hnm, if_neg (by rw [hx1]; simp), if_neg (by rw [hx2]; simp), put_app _ (by simp at hacc; omega), ht]
    simp
  | col2 tb nm d h1 h2 h3 =>
    intro N M n k o acc hs hM hn ho hacc _ _
    obtain ⟨n, rfl⟩ : ∃ j, n = j + 1 := ⟨n - 1, by simp at hn; omega⟩
    obtain ⟨hk, ht⟩ := hs.head
    obtain ⟨_, ht1⟩ := hs.tail.head
    obtain ⟨hk2, ht2⟩ := hs.tail.tail.head
    simp only at hk ht ht1 hk2 ht2
    obtain ⟨e1, e2, e3⟩ := nameL_no h1
    obtain ⟨_, _, f3⟩ := nameL_no h3
    have hnm : nmT (N k) = true := by unfold nmT; rw [hk, ht, e3]; rfl
    have hnm2 : nmT (N (k + 2)) = true := by unfold nmT; rw [hk2, ht2, f3]; rfl
    unfold rdx
    rw [ht, if_neg (by rw [e1]; simp), if_neg (by rw [e2]; simp), h2]
    simp only
    unfold colF
    rw [if_pos hnm, ht1, if_neg (by decide), if_pos (by decide), if_pos hnm2, put_app _ (by simp at hacc; omega), ht, ht2]
    simp
  | neg l t s d htr ih =>
    intro N M n k o acc hs hM hn ho hacc _ _
    simp only [List.length_cons, List.length_append, List.length_nil] at hn hacc
    have hp := htr.pos
    obtain ⟨n, rfl⟩ : ∃ j, n = j + 1 + 6 + 2 := ⟨n - 9, by omega⟩
    have h40 := hs.head.2
    have h45 := hs.tail.head.2
    have hs2 := hs.tail.tail
    have h41 : (N (k + 1 + 1 + s.length)).t = [41] := hs2.right.head.2
    have hu := ih N M n (k + 1 + 1) (o + 1 + 1) acc hs2.left hM (by omega) (by omega) (by omega) (by rw [h41]; decide) (by rw [h41]; decide)
    have hm : rdx N V M (n + 1) .un (k + 1) acc (o + 1) = (0, k + 1 + 1 + s.length, acc ++ (l ++ [opX 3])) := by
      unfold rdx
      rw [h45, if_pos (by decide), if_neg (by omega), hu]
      simp only
      rw [put_app _ (by simp; omega), List.append_assoc]
    have hx := un_paren h40 (by omega) (ex_of_un (by omega) hm (by rw [h45]; decide) (Or.inl h41)) h41
    rw [hx]
    simp only [List.length_cons, List.length_append, List.length_nil, Prod.mk.injEq, and_true, true_and]
    omega
  | nt l t s d htr ih =>
    intro N M n k o acc hs hM hn ho hacc _ _
    simp only [List.length_cons, List.length_append, List.length_nil] at hn hacc
    have hp := htr.pos
    obtain ⟨x, r, hxr, hxn⟩ := htr.first
    obtain ⟨n, rfl⟩ : ∃ j, n = j + 4 + 1 + 2 + 2 := ⟨n - 9, by omega⟩
    have h40 := hs.head.2
    have hno := hs.tail.head.2
    have hs2 := hs.tail.tail
    have h41 : (N (k + 1 + 1 + s.length)).t = [41] := hs2.right.head.2
    have hfst : ((N (k + 1 + 1)).t == wNot) = false := by
      have := hs2.left
      rw [hxr] at this
      rw [this.head.2]
      exact hxn
    have hc : Clo (N (k + 1 + 1 + s.length)).t := Or.inl h41
    have hu := ih N M n (k + 1 + 1) (o + 1 + 1) acc hs2.left hM (by omega) (by omega) (by omega) (by rw [h41]; decide) (by rw [h41]; decide)
    have hn4 : rdx N V M (n + 4) .no (k + 1 + 1) acc (o + 1 + 1) = (0, k + 1 + 1 + s.length, acc ++ l) := up_no (up_co (all_su (by omega) hu hc.no.1 hc.no.2.1) hc.no.2.2.2.2.2.1 hc.no.2.2.1) hfst
    have hm : rdx N V M (n + 4 + 1) .no (k + 1) acc (o + 1) = (0, k + 1 + 1 + s.length, acc ++ (l ++ [opX 4])) := by
      unfold rdx
      rw [hno, if_pos (by decide), if_neg (by omega), hn4]
      simp only
      rw [put_app _ (by simp; omega), List.append_assoc]
    have hx := un_paren h40 (by omega) (ex_of_no (by omega) hm hc) h41
    rw [hx]
    simp only [List.length_cons, List.length_append, List.length_nil, Prod.mk.injEq, and_true, true_and]
    omega
  | isn l t s d htr ih =>
    intro N M n k o acc hs hM hn ho hacc _ _
    simp only [List.length_cons, List.length_append, List.length_nil] at hn hacc
    have hp := htr.pos
    obtain ⟨x, r, hxr, hxn⟩ := htr.first
    obtain ⟨n, rfl⟩ : ∃ j, n = j + 2 + 1 + 3 + 2 := ⟨n - 8, by omega⟩
    have h40 := hs.head.2
    have hs2 := hs.tail
    have his : (N (k + 1 + s.length)).t = wIs := hs2.right.head.2
    have hnu : (N (k + 1 + s.length + 1)).t = wNull := hs2.right.tail.head.2
    have h41 : (N (k + 1 + s.length + 1 + 1)).t = [41] := hs2.right.tail.tail.head.2
    have hfst : ((N (k + 1)).t == wNot) = false := by
      have := hs2.left
      rw [hxr] at this
      rw [this.head.2]
      exact hxn
    have hu := ih N M n (k + 1) (o + 1) acc hs2.left hM (by omega) (by omega) (by omega) (by rw [his]; decide) (by rw [his]; decide)
    have h2 := all_su (by omega) hu (by rw [his]; decide) (by rw [his]; decide)
    have hm : rdx N V M (n + 2 + 1) .co (k + 1) acc (o + 1) = (0, k + 1 + s.length + 1 + 1, acc ++ (l ++ [opX 5])) := by
      unfold rdx
      rw [h2, if_pos rfl]
      simp only
      rw [his, if_pos (by decide)]
      unfold nullF
      rw [hnu, if_neg (by decide), if_pos (by decide), put_app _ (by simp; omega), List.append_assoc]
    have hx := un_paren h40 (by omega) (ex_of_co (by omega) hm hfst (Or.inl h41)) h41
    rw [hx]
    simp only [List.length_cons, List.length_append, List.length_nil, Prod.mk.injEq, and_true, true_and]
    omega
  | bin op l1 l2 t1 t2 s1 s2 d h6 h18 htr1 htr2 ih1 ih2 =>
    intro N M n k o acc hs hM hn ho hacc _ _
    simp only [List.length_cons, List.length_append, List.length_nil] at hn hacc
    have hp1 := htr1.pos
    have hp2 := htr2.pos
    obtain ⟨x, r, hxr, hxn⟩ := htr1.first
    obtain ⟨y, r', hyr, hyn⟩ := htr2.first
    obtain ⟨n, rfl⟩ : ∃ j, n = j + 6 + 2 := ⟨n - 8, by omega⟩
    have h40 := hs.head.2
    have hs2 := hs.tail
    have hop : (N (k + 1 + s1.length)).t = sgn op := hs2.right.head.2
    have hsb := hs2.right.tail
    have h41 : (N (k + 1 + s1.length + 1 + s2.length)).t = [41] := hsb.right.head.2
    have hc : Clo (N (k + 1 + s1.length + 1 + s2.length)).t := Or.inl h41
    have hfst : ((N (k + 1)).t == wNot) = false := by
      have := hs2.left
      rw [hxr] at this
      rw [this.head.2]
      exact hxn
    have hfst2 : ((N (k + 1 + s1.length + 1)).t == wNot) = false := by
      have := hsb.left
      rw [hyr] at this
      rw [this.head.2]
      exact hyn
    obtain ⟨o1, o2, o3, o4, o5, o6, o7, o8⟩ := op_at op h6 h18
    rw [← hop] at o1 o2 o3 o4 o5 o6 o7 o8
    have ha : ∀ n', 8 * s1.length ≤ n' → rdx N V M n' .un (k + 1) acc (o + 1) = (0, k + 1 + s1.length, acc ++ l1) := fun n' hn' => ih1 N M n' (k + 1) (o + 1) acc hs2.left hM hn' (by omega) (by omega) o7 o8
    have hb : ∀ n', 8 * s2.length ≤ n' → rdx N V M n' .un (k + 1 + s1.length + 1) (acc ++ l1) (o + 1) = (0, k + 1 + s1.length + 1 + s2.length, acc ++ l1 ++ l2) := fun n' hn' => ih2 N M n' (k + 1 + s1.length + 1) (o + 1) (acc ++ l1) hsb.left hM hn' (by omega) (by simp; omega) (by rw [h41]; decide) (by rw [h41]; decide)
    have hput : putN (acc ++ l1 ++ l2) (opX op) = acc ++ (l1 ++ l2 ++ [opX op]) := by rw [put_app _ (by simp; omega)]; simp
    have hop0 : op ≠ 0 := by omega
    have fin : rdx N V M (n + 6) .ex (k + 1) acc (o + 1) = (0, k + 1 + s1.length + 1 + s2.length, acc ++ (l1 ++ l2 ++ [opX op])) := by
      by_cases q1 : op ≤ 8
      · rw [if_pos q1] at o1
        refine ex_of_te (n := n + 1) (by omega) ?_ hfst hc
        rw [← hput]
        exact steps_two hM (ha n (by omega)) o1 hop0 (hb n (by omega)) hc.no.1
      rw [if_neg q1] at o1
      by_cases q2 : 9 ≤ op ∧ op ≤ 10
      · rw [if_pos q2] at o2
        refine ex_of_su (n := n + 2) (by omega) ?_ hfst hc
        rw [← hput]
        exact steps_two hM (up_te (by omega) (ha n (by omega)) o1) o2 hop0 (up_te (by omega) (hb n (by omega)) hc.no.1) hc.no.2.1
      rw [if_neg q2] at o2
      by_cases q3 : 11 ≤ op ∧ op ≤ 16
      · rw [if_pos q3] at o3
        refine ex_of_co (n := n + 2 + 1) (by omega) ?_ hfst hc
        rw [← hput]
        have hA := all_su (by omega) (ha n (by omega)) o1 o2
        have hB := all_su (by omega) (hb n (by omega)) hc.no.1 hc.no.2.1
        unfold rdx
        rw [hA, if_pos rfl]
        simp only
        rw [if_neg (by rw [o6]; simp), o3, if_neg hop0, hB]
      rw [if_neg q3] at o3
      have hA := up_no (up_co (all_su (by omega) (ha n (by omega)) o1 o2) o6 o3) hfst
      have hB := up_no (up_co (all_su (by omega) (hb n (by omega)) hc.no.1 hc.no.2.1) hc.no.2.2.2.2.2.1 hc.no.2.2.1) hfst2
      by_cases q4 : op = 17
      · rw [if_pos q4] at o4
        refine up_ex (by omega) ?_ hc.no.2.2.2.2.1
        rw [← hput]
        exact steps_two hM hA o4 hop0 hB hc.no.2.2.2.1
      · rw [if_neg q4] at o4
        rw [if_pos (by omega)] at o5
        rw [← hput]
        exact steps_two hM (up_an (by omega) hA o4) o5 hop0 (up_an (by omega) hB hc.no.2.2.2.1) hc.no.2.2.2.2.1
    have hx := un_paren h40 (by omega) fin h41
    rw [hx]
    simp only [List.length_cons, List.length_append, List.length_nil, Prod.mk.injEq, and_true, true_and]
    omega
  | call nm ax d h1 h2 h4 hax ih =>
    intro N M n k o acc hs hM hn ho hacc _ _
    simp only [List.length_cons, List.length_append, List.length_nil] at hn hacc
    obtain ⟨n, rfl⟩ : ∃ j, n = j + 6 + 1 := ⟨n - 7, by omega⟩
    obtain ⟨hk, ht⟩ := hs.head
    have h40 := hs.tail.head.2
    have hsa := hs.tail.tail
    simp only at hk ht h40
    obtain ⟨e1, e2, e3⟩ := nameL_no h1
    have hnm : nmT (N k) = true := by unfold nmT; rw [hk, ht, e3]; rfl
    have hfin : argsF N (fun k acc => rdx N V M (n + 6) .ex k acc (o + 1)) (k + 2) acc = ((0, k + 2 + (argT (ax.map (·.2.2))).length, acc ++ (ax.map (·.1)).flatten), ax.length) := by
      unfold argsF
      cases ax with
      | nil =>
        have h41 : (N (k + 2)).t = [41] := hsa.head.2
        rw [h41, if_pos (by decide)]
        simp [argT]
      | cons a r =>
        have hp := (hax a (by simp)).pos
        have hfirst : ((N (k + 2)).t == [41]) = false := by
          have hseg : Seg N (k + 2) (a.2.2 ++ (argT ((a :: r).map (·.2.2))).drop a.2.2.length) := by
            cases r with
            | nil => simpa [argT] using hsa
            | cons b r => simpa [argT] using hsa
          have hl := hseg.left
          have hA := hax a (by simp)
          generalize a.1 = l1 at hA
          generalize a.2.1 = t1 at hA
          generalize a.2.2 = s1 at hA hl
          cases hA with
          | val v T kk d h1 h6 h7 h2 h3 h5 h4 => rw [hl.head.2]; exact h5
          | col1 nm d h1 h2 => rw [hl.head.2]; simp only; rw [beq_eq_false_iff_ne]; rintro rfl; exact absurd h1 (by decide)
          | col2 tb nm d h1 h2 h3 => rw [hl.head.2]; simp only; rw [beq_eq_false_iff_ne]; rintro rfl; exact absurd h1 (by decide)
          | call nm ax d h1 h2 h3 _ => rw [hl.head.2]; simp only; rw [beq_eq_false_iff_ne]; rintro rfl; exact absurd h1 (by decide)
          | _ => rw [hl.head.2]; decide
        rw [if_neg (by rw [hfirst]; simp)]
        have := args_rd (N := N) (part := fun k acc => rdx N V M (n + 6) .ex k acc (o + 1)) (a :: r) (by simp) (fun x hx k' acc' hs' hacc' hclo => by
          obtain ⟨y, r', hyr, hyn⟩ := (hax x hx).first
          have hlen := argT_len (((a :: r).map (·.2.2))) x.2.2 (List.mem_map_of_mem hx)
          have hu := ih x hx N M n k' (o + 1) acc' hs' hM (by omega) (by omega) hacc' hclo.no.2.2.2.2.2.2.1 hclo.no.2.2.2.2.2.2.2
          refine ex_of_un (by omega) hu ?_ hclo
          rw [hyr] at hs'
          rw [hs'.head.2]
          exact hyn) 4 (k + 2) acc 0 h4 hsa (by omega)
        rw [this, Nat.zero_add]
    unfold rdx
    rw [ht, if_neg (by rw [e1]; simp), if_neg (by rw [e2]; simp), h2]
    simp only
    unfold colF
    rw [if_pos hnm, h40, if_pos (by decide), if_neg (by omega), hfin]
    simp only
    rw [put_app _ (by rw [List.length_append]; omega), ht]
    simp only [List.length_cons, List.append_assoc, Prod.mk.injEq, and_true, true_and]
    omega
end Go.Proofs.YtclhmmgdhagloaaGreatDoor
