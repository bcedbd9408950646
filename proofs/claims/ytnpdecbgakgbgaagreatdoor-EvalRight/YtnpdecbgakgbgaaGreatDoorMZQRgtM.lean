/-
  Two good texts joined are a good text. Nothing of the program is in it.
  What an op comes to may be, or is nothing.
-/
import Derived.Lib.ValidLaws
import Derived.Lib.DecodeN
import Derived.Test.YtnpdecbgakgbgaaGreatDoorQRgt
namespace Go.Proofs.YtnpdecbgakgbgaaGreatDoor
open Go.Lib

theorem decN_app (n n' b0 b1 b2 b3 c1 c2 c3 : Nat) (h0n : 0 < n) (hn : n ≤ n') (e1 : 1 < n → c1 = b1) (e2 : 2 < n → c2 = b2) (e3 : 3 < n → c3 = b3)
    (h : ¬ ((decodeN n b0 b1 b2 b3).1 = 65533 ∧ (decodeN n b0 b1 b2 b3).2 = 1)) :
    decodeN n' b0 c1 c2 c3 = decodeN n b0 b1 b2 b3 ∧ (decodeN n b0 b1 b2 b3).2 ≤ n ∧ 0 < (decodeN n b0 b1 b2 b3).2 := by
  by_cases h0 : b0 < 128
  · simp only [decodeN, if_pos h0]
    exact ⟨trivial, h0n, by decide⟩
  by_cases h6 : b0 / 32 = 6 ∧ (1 < n ∧ b1 / 64 = 2)
  · obtain rfl := e1 h6.2.1
    have h6' : b0 / 32 = 6 ∧ (1 < n' ∧ c1 / 64 = 2) := ⟨h6.1, by omega, h6.2.2⟩
    simp only [decodeN, if_neg h0, if_pos h6, if_pos h6']
    refine ⟨trivial, ?_⟩
    split <;> simp <;> omega
  by_cases h14 : b0 / 16 = 14 ∧ (1 < n ∧ b1 / 64 = 2) ∧ (2 < n ∧ b2 / 64 = 2)
  · obtain rfl := e1 h14.2.1.1
    obtain rfl := e2 h14.2.2.1
    have h6' : ¬ (b0 / 32 = 6 ∧ (1 < n' ∧ c1 / 64 = 2)) := by omega
    have h14' : b0 / 16 = 14 ∧ (1 < n' ∧ c1 / 64 = 2) ∧ (2 < n' ∧ c2 / 64 = 2) := ⟨h14.1, ⟨by omega, h14.2.1.2⟩, by omega, h14.2.2.2⟩
    simp only [decodeN, if_neg h0, if_neg h6, if_neg h6', if_pos h14, if_pos h14']
    refine ⟨trivial, ?_⟩
    split <;> simp <;> omega
  by_cases h30 : b0 / 8 = 30 ∧ (1 < n ∧ b1 / 64 = 2) ∧ (2 < n ∧ b2 / 64 = 2) ∧ (3 < n ∧ b3 / 64 = 2)
  · obtain rfl := e1 h30.2.1.1
    obtain rfl := e2 h30.2.2.1.1
    obtain rfl := e3 h30.2.2.2.1
    have h6' : ¬ (b0 / 32 = 6 ∧ (1 < n' ∧ c1 / 64 = 2)) := by omega
    have h14' : ¬ (b0 / 16 = 14 ∧ (1 < n' ∧ c1 / 64 = 2) ∧ (2 < n' ∧ c2 / 64 = 2)) := by omega
    have h30' : b0 / 8 = 30 ∧ (1 < n' ∧ c1 / 64 = 2) ∧ (2 < n' ∧ c2 / 64 = 2) ∧ (3 < n' ∧ c3 / 64 = 2) := ⟨h30.1, ⟨by omega, h30.2.1.2⟩, ⟨by omega, h30.2.2.1.2⟩, by omega, h30.2.2.2.2⟩
    simp only [decodeN, if_neg h0, if_neg h6, if_neg h6', if_neg h14, if_neg h14', if_pos h30, if_pos h30']
    refine ⟨trivial, ?_⟩
    split <;> simp <;> omega
  · exfalso
    apply h
    simp only [decodeN, if_neg h0, if_neg h6, if_neg h14, if_neg h30]
    exact ⟨trivial, trivial⟩

theorem validD_append : ∀ (n : Nat) (l r : List UInt8), l.length ≤ n → validD l = true → validD r = true → validD (l ++ r) = true := by
  intro n
  induction n with
  | zero =>
    intro l r hl _ hr
    obtain rfl : l = [] := List.length_eq_zero_iff.1 (by omega)
    exact hr
  | succ n ih =>
    intro l r hl hv hr
    by_cases hne : l = []
    · subst hne; exact hr
    · have hp : 0 < l.length := List.length_pos_iff.2 hne
      rw [validD_step l hne] at hv
      split at hv
      · cases hv
      · rename_i h
        have h' := h
        rw [decodeL_N] at h'
        have hg : ∀ i, i < l.length → (l ++ r).getD i 0 = l.getD i 0 := fun i hi => by simp [List.getD, List.getElem?_append_left hi]
        obtain ⟨e, hle, hlt⟩ := decN_app l.length (l ++ r).length (l.getD 0 0).toNat (l.getD 1 0).toNat (l.getD 2 0).toNat (l.getD 3 0).toNat ((l ++ r).getD 1 0).toNat ((l ++ r).getD 2 0).toNat ((l ++ r).getD 3 0).toNat hp (by simp) (fun h => by rw [hg 1 h]) (fun h => by rw [hg 2 h]) (fun h => by rw [hg 3 h]) h'
        have ed : decodeL (l ++ r) = decodeL l := by rw [decodeL_N, decodeL_N, hg 0 hp]; exact e
        rw [← decodeL_N] at hle hlt
        rw [validD_step (l ++ r) (by simp [hne]), ed, if_neg h, List.drop_append_of_le_length hle]
        exact ih _ _ (by rw [List.length_drop]; omega) hv hr
end Go.Proofs.YtnpdecbgakgbgaaGreatDoor

namespace Go.Proofs.YtnpdecbgakgbgaaGreatDoor
open Go.RowKit Go.Shelf

/-- What is answered may be, or is nothing. -/
def okR (r : Va × Int) : Prop := vr r.1 = true ∧ (r.2 = 0 ∨ r.1 = nul)
theorem vr_nul : vr nul = true := vr_of (by simp [vok, nul])
theorem ok_nul (e : Int) : okR (nul, e) := ⟨vr_nul, .inr rfl⟩
theorem ok_int (z : Int) : okR (vI z, 0) := ⟨vr_of (by simp [vok, vI]), .inl rfl⟩
theorem ok_bool (b : Bool) : okR (vB b, 0) := ⟨vr_of (by cases b <;> simp [vok, vB]), .inl rfl⟩
theorem ok_pt (x y : Int) (h : Ga.ok2 x y = true) : okR (vP x y, 0) := ⟨vr_of (by have := (Ga.ok2_iff x y).1 h; simp [vok, vP]; omega), .inl rfl⟩
theorem ok_of (t : Int) : okR (vO t, 0) := by
  unfold vO
  split
  · rename_i h
    exact ⟨vr_of (by simp [vok]; omega), .inl rfl⟩
  · exact ok_nul 0
theorem ok_whole (z e : Int) : okR (wholeR z e) := by
  unfold wholeR
  split
  · exact ok_int z
  · exact ok_nul e
theorem ok_dec (z s : Int) (h : 0 ≤ s ∧ s ≤ 6) : okR (decR z s) := by
  unfold decR exactR
  split
  · refine ⟨vr_of ?_, .inl rfl⟩
    have : 0 ≤ fs z s ∧ fs z s ≤ 6 := by unfold fs; split <;> omega
    simp [vok, vD]; omega
  · exact ok_nul _
theorem ok_ptR (x y : Int) : okR (ptR x y) := by
  unfold ptR placedR Ga.tX Ga.tY Ga.tE
  by_cases h : Ga.ok2 x y = true
  · simp only [h, if_true]
    exact ok_pt x y h
  · simp only [h]
    exact ok_nul 32
theorem ok_cmp (op c : Int) : okR (cmpR op c) := by
  unfold cmpR
  repeat' split
  all_goals first | exact ok_bool _ | exact ok_nul _

theorem ok_bin (op : Int) (a b : Va) : okR (binR op a b) := by
  unfold binR
  split
  · exact ok_nul 1
  rename_i hg
  have hr : vr a = true ∧ vr b = true := by
    rcases Decidable.not_not.1 hg with ⟨_, _, h1, h2⟩
    exact ⟨h1, h2⟩
  have va' := (vr_iff a).1 hr.1
  have vb' := (vr_iff b).1 hr.2
  split
  · unfold truR
    repeat' split
    all_goals first | exact ok_of _ | exact ok_nul _
  split
  · exact ok_nul 0
  split
  · unfold intsR
    repeat' split
    all_goals first | exact ok_whole _ _ | exact ok_cmp _ _
  obtain ⟨ak, an, am, ab⟩ := a
  obtain ⟨bk, bn, bm, bb⟩ := b
  simp only [vok] at va' vb'
  split
  · rename_i hn
    simp only [isn] at hn
    have sa : 0 ≤ am ∧ am ≤ 6 := by omega
    have sb : 0 ≤ bm ∧ bm ≤ 6 := by omega
    unfold numsR
    have g1 : 0 ≤ gsc am bm ∧ gsc am bm ≤ 6 := by unfold gsc; split <;> omega
    have g2 : 0 ≤ psc am bm ∧ psc am bm ≤ 6 := by unfold psc; split <;> omega
    repeat' split
    all_goals first | exact ok_dec _ _ g1 | exact ok_dec _ _ g2 | exact ok_dec _ _ ⟨by decide, by decide⟩ | exact ok_nul _ | exact ok_cmp _ _
  split
  · rename_i h5
    simp only at h5
    have pa : (-1048576 ≤ an ∧ an ≤ 1048576) ∧ (-1048576 ≤ am ∧ am ≤ 1048576) := by omega
    have pb : (-1048576 ≤ bn ∧ bn ≤ 1048576) ∧ (-1048576 ≤ bm ∧ bm ≤ 1048576) := by omega
    have q1 : ¬ (bn = 0 ∧ bm = 0) → okR (vP (Ga.qX an am bn bm) (Ga.qY an am bn bm), 0) := fun hz => by
      have := Ga.quo_ok an am bn bm pa.1 pa.2 (Ga.norm_pos hz)
      exact ok_pt _ _ ((Ga.ok2_iff _ _).2 ⟨this.1.1, this.1.2, this.2.1, this.2.2⟩)
    have q2 : ¬ (bn = 0 ∧ bm = 0) → okR (vP (Ga.rX an am bn bm) (Ga.rY an am bn bm), 0) := fun hz => by
      have := Ga.rest_ok an am bn bm pb.1 pb.2 (Ga.norm_pos hz)
      exact ok_pt _ _ ((Ga.ok2_iff _ _).2 ⟨this.1.1, this.1.2, this.2.1, this.2.2⟩)
    unfold ptsR
    simp only
    by_cases hz : bn = 0 ∧ bm = 0
    · rw [if_pos hz, if_pos hz]
      repeat' split
      all_goals first | exact ok_ptR _ _ | exact ok_nul _ | exact ok_cmp _ _
    · rw [if_neg hz, if_neg hz]
      repeat' split
      all_goals first | exact ok_ptR _ _ | exact q1 hz | exact q2 hz | exact ok_cmp _ _
  split
  · rename_i h3
    simp only at h3
    unfold txtR
    simp only
    split
    · split
      · exact ok_nul 32
      · rename_i ho
        refine ⟨vr_of ?_, .inl rfl⟩
        have ga : Lib.validD ab = true := by rcases va' with h | h | h | h | h | h <;> first | omega | exact h.2.2.2.2
        have gb : Lib.validD bb = true := by rcases vb' with h | h | h | h | h | h <;> first | omega | exact h.2.2.2.2
        have := validD_append ab.length ab bb (Nat.le_refl _) ga gb
        simp [vok, vT, this]
        omega
    · exact ok_cmp _ _
  split
  · exact ok_cmp _ _
  · exact ok_nul 31

theorem ok_un (op : Int) (a : Va) : okR (unR op a) := by
  unfold unR
  split
  · exact ok_nul 1
  rename_i hg
  have hr : vr a = true := (Decidable.not_not.1 hg).2.2
  have va' := (vr_iff a).1 hr
  split
  · exact ok_bool _
  split
  · unfold notR
    split
    · exact ok_of _
    · exact ok_nul _
  obtain ⟨ak, an, am, ab⟩ := a
  simp only [vok] at va'
  unfold negR
  simp only
  split
  · exact ok_nul 0
  split
  · exact ok_whole _ _
  split
  · exact ok_dec _ _ (by omega)
  split
  · exact ok_pt _ _ ((Ga.ok2_iff _ _).2 (by omega))
  · exact ok_nul 31

theorem right_walk (op : Int) (a b : Va) (w : World) (hT : Tabs w) (hP : Pw w) (ia : vin a) (ib : vin b) :
    Calls Tryz.prog 7 #[.int .i64 op, vv a, vv b] w fun e w' => e = .returned (.bool true) ∧ Below w.heap.size w w' := by
  have K : Tells 21 #[] w (.bool true) := fun W h => knows7_any W (hT.later h) (hP.below h)
  have M : Tells 17 #[.int .i64 op, vv a, vv b] w (rs (binR op a b)) := fun W h => qbin_any op a b W (hT.later h) (hP.below h) ia ib
  have U : Tells 15 #[.int .i64 op, vv a] w (rs (unR op a)) := fun W h => qun_any op a W (hT.later h) (hP.below h) ia
  obtain ⟨r1, e1⟩ := ok_bin op a b
  obtain ⟨r2, e2⟩ := ok_un op a
  have R : ∀ v : Va, vr v = true → Tells 26 #[vv v] w (.bool true) := fun v hv W _ => by
    have := rright_any v.k v.n v.m ⟨v.b.toArray⟩ W
    rw [show vrt v.k v.n v.m ⟨v.b.toArray⟩ = true from hv] at this
    exact this
  have R1 := R _ r1
  have R2 := R _ r2
  rcases hx : binR op a b with ⟨⟨vk, vn, vm, vb⟩, ve⟩
  rcases hy : unR op a with ⟨⟨uk, un, um, ub⟩, ue⟩
  rw [hx] at M R1 e1
  rw [hy] at U R2 e2
  simp only at e1 e2
  by_cases h1 : ve = 0
  · subst h1
    by_cases h2 : ue = 0
    · subst h2
      exact right_00 op a.k a.n a.m b.k b.n b.m a.b b.b vk vn vm vb uk un um ub w M U R1 R2 K
    · have h3 : (⟨uk, un, um, ub⟩ : Va) = nul := by rcases e2 with h | h; exact absurd h h2; exact h
      simp only [nul, Va.mk.injEq] at h3
      obtain ⟨rfl, rfl, rfl, rfl⟩ := h3
      exact right_01 op a.k a.n a.m b.k b.n b.m a.b b.b vk vn vm vb ue (by simpa using h2) w M U R1 R2 K
  · have h4 : (⟨vk, vn, vm, vb⟩ : Va) = nul := by rcases e1 with h | h; exact absurd h h1; exact h
    simp only [nul, Va.mk.injEq] at h4
    obtain ⟨rfl, rfl, rfl, rfl⟩ := h4
    by_cases h2 : ue = 0
    · subst h2
      exact right_10 op a.k a.n a.m b.k b.n b.m a.b b.b ve (by simpa using h1) uk un um ub w M U R1 R2 K
    · have h3 : (⟨uk, un, um, ub⟩ : Va) = nul := by rcases e2 with h | h; exact absurd h h2; exact h
      simp only [nul, Va.mk.injEq] at h3
      obtain ⟨rfl, rfl, rfl, rfl⟩ := h3
      exact right_11 op a.k a.n a.m b.k b.n b.m a.b b.b ve (by simpa using h1) ue (by simpa using h2) w M U R1 R2 K
end Go.Proofs.YtnpdecbgakgbgaaGreatDoor
