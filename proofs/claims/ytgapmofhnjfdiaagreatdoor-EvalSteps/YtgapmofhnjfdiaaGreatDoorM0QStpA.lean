/-
  The document's answers for eval: Binary, whole: as the program's.
  The walk of EvalSteps.
  EvalSteps: the row's frame.
-/
import Derived.Test.YtgapmofhnjfdiaaGreatDoorMYQR5
import Derived.Test.YtgapmofhnjfdiaaGreatDoorMGQR6A
import Derived.Test.YtgapmofhnjfdiaaGreatDoorMHQStpB
import Derived.Test.YtgapmofhnjfdiaaGreatDoorMFQCall
import Derived.Test.YtgapmofhnjfdiaaGreatDoorMJQLaw
import Derived.Test.YtgapmofhnjfdiaaGreatDoorDRef9
import Derived.Test.YtgapmofhnjfdiaaGreatDoorVOrd2
import Derived.Test.YtgapmofhnjfdiaaGreatDoorQR7
import Derived.Test.YtgapmofhnjfdiaaGreatDoorMzVOrd1
namespace Go.Proofs.YtgapmofhnjfdiaaGreatDoor
open Go.RowKit Go.Shelf

/-- What is reckoned, of values that are not null. -/
def reckR (op : Int) (a b : Va) : Va × Int :=
  if a.k = 1 ∧ b.k = 1 then intsR op a.n b.n
  else if isn a ∧ isn b then numsR op a b
  else if a.k = 5 ∧ b.k = 5 then ptsR op a b
  else if a.k = 3 ∧ b.k = 3 then txtR op a b
  else if a.k = 4 ∧ b.k = 4 then cmpR op (pcmp a b)
  else (nul, 31)

theorem cmp_31 (op c : Int) (h : op ≤ 10) : cmpR op c = (nul, 31) := by
  unfold cmpR
  rw [if_neg (by omega), if_neg (by omega), if_neg (by omega), if_neg (by omega), if_neg (by omega), if_neg (by omega)]

set_option maxHeartbeats 1000000 in
theorem rreckon_any (op : Int) (a b : Va) (w : World) (h1 : 6 ≤ op) (h2 : op ≤ 10) (ha : vr a = true) (hb : vr b = true) (a0 : ¬ a.k = 0) (ia : vin a) (ib : vin b) :
    Calls Tryz.prog 69 #[.int .i64 op, vv a, vv b] w fun e w' => e = .returned (rs (reckR op a b)) ∧ Grew w w' := by
  have va' := (vr_iff a).1 ha
  have vb' := (vr_iff b).1 hb
  obtain ⟨ak, an, am, ab⟩ := a
  obtain ⟨bk, bn, bm, bb⟩ := b
  simp only [vok] at va' vb'
  obtain ⟨⟨ia0, ia1⟩, -⟩ := id ia
  obtain ⟨⟨ib0, ib1⟩, -⟩ := id ib
  simp only at ia0 ia1 ib0 ib1 a0
  unfold reckR
  simp only [isn]
  rcases (by omega : ak = 1 ∨ ak = 2 ∨ ak = 3 ∨ ak = 4 ∨ ak = 5) with rfl | rfl | rfl | rfl | rfl
  · by_cases h1' : bk = 1
    · subst h1'
      rw [if_pos ⟨rfl, rfl⟩, ← iR_ints op an bn h1 h2]
      exact reck_ints op an am bn bm _ _ w _ _ (fun W => rints7_any op an bn W ia0 ia1 ib0 ib1)
    by_cases h2' : bk = 2
    · subst h2'
      rw [if_neg (by omega), if_pos (by omega)]
      exact reck_n12 op an am bn bm _ _ w _ (fun W => rdecs7_any op ⟨1, an, am, ab⟩ ⟨2, bn, bm, bb⟩ W h1 h2 (by simp only; omega) (by simp only; omega) ia ib)
    · rw [if_neg (by omega), if_neg (by omega), if_neg (by omega), if_neg (by omega), if_neg (by omega)]
      exact reck_o1 op bk an am bn bm _ _ w (by simpa using h1') (by simpa using h2')
  · by_cases h1' : bk = 1
    · subst h1'
      rw [if_neg (by omega), if_pos (by omega)]
      exact reck_n21 op an am bn bm _ _ w _ (fun W => rdecs7_any op ⟨2, an, am, ab⟩ ⟨1, bn, bm, bb⟩ W h1 h2 (by simp only; omega) (by simp only; omega) ia ib)
    by_cases h2' : bk = 2
    · subst h2'
      rw [if_neg (by omega), if_pos (by omega)]
      exact reck_n22 op an am bn bm _ _ w _ (fun W => rdecs7_any op ⟨2, an, am, ab⟩ ⟨2, bn, bm, bb⟩ W h1 h2 (by simp only; omega) (by simp only; omega) ia ib)
    · rw [if_neg (by omega), if_neg (by omega), if_neg (by omega), if_neg (by omega), if_neg (by omega)]
      exact reck_o2 op bk an am bn bm _ _ w (by simpa using h1') (by simpa using h2')
  · by_cases h3 : bk = 3
    · subst h3
      rw [if_neg (by omega), if_neg (by omega), if_neg (by omega), if_pos ⟨rfl, rfl⟩]
      obtain ⟨rfl, rfl, la⟩ : an = 0 ∧ am = 0 ∧ ab.length ≤ 256 := by rcases va' with h | h | h | h | h | h <;> first | omega | exact ⟨h.2.1, h.2.2.1, h.2.2.2.1⟩
      obtain ⟨rfl, rfl, lb⟩ : bn = 0 ∧ bm = 0 ∧ bb.length ≤ 256 := by rcases vb' with h | h | h | h | h | h <;> first | omega | exact ⟨h.2.1, h.2.2.1, h.2.2.2.1⟩
      unfold txtR
      have sa : (⟨ab.toArray⟩ : ByteArray).size = ab.length := by show ab.toArray.size = _; simp
      have sb : (⟨bb.toArray⟩ : ByteArray).size = bb.length := by show bb.toArray.size = _; simp
      by_cases h9 : op = 9
      · subst h9
        rw [if_pos rfl]
        by_cases ho : 256 < ab.length + bb.length
        · rw [if_pos ho]
          exact reck_over 0 0 0 0 ⟨ab.toArray⟩ ⟨bb.toArray⟩ w (by rw [sa, sb]; omega) (by rw [sa, sb, IntKind.wrap_i64]; omega)
        · rw [if_neg ho]
          have := reck_join 0 0 0 0 ⟨ab.toArray⟩ ⟨bb.toArray⟩ w (by rw [sa, sb]; omega) (by rw [sa, sb, IntKind.wrap_i64]; omega)
          rw [ba_append] at this
          exact this
      · rw [if_neg h9, cmp_31 op _ h2]
        exact reck_txt op 0 0 0 0 _ _ w (by simpa using h9)
    · rw [if_neg (by omega), if_neg (by omega), if_neg (by omega), if_neg (by omega), if_neg (by omega)]
      exact reck_o3 op bk an am bn bm _ _ w (by simpa using h3)
  · by_cases h4 : bk = 4
    · subst h4
      rw [if_neg (by omega), if_neg (by omega), if_neg (by omega), if_neg (by omega), if_pos ⟨rfl, rfl⟩, cmp_31 op _ h2]
      exact reck_o4 op 4 an am bn bm _ _ w
    · rw [if_neg (by omega), if_neg (by omega), if_neg (by omega), if_neg (by omega), if_neg (by omega)]
      exact reck_o4 op bk an am bn bm _ _ w
  · by_cases h5 : bk = 5
    · subst h5
      rw [if_neg (by omega), if_neg (by omega), if_pos ⟨rfl, rfl⟩]
      exact reck_pts op an am bn bm _ _ w _ (fun W => rpoints7_any op ⟨5, an, am, ab⟩ ⟨5, bn, bm, bb⟩ W h1 h2 ((Ga.ok2_iff an am).2 (by omega)) ((Ga.ok2_iff bn bm).2 (by omega)))
    · rw [if_neg (by omega), if_neg (by omega), if_neg (by omega), if_neg (by omega), if_neg (by omega)]
      exact reck_o5 op bk an am bn bm _ _ w (by simpa using h5)

/-- The document's order of two numbers. -/
theorem rcmp_six (a b : Va) (w : World) (ha : 0 ≤ a.m ∧ a.m ≤ 6) (hb : 0 ≤ b.m ∧ b.m ≤ 6) (ia : vin a) (ib : vin b) :
    Calls Tryz.prog 73 #[dv a.n a.m, dv b.n b.m] w fun e w' => e = .returned (.int .i64 (numc (at6 a) (at6 b))) ∧ Grew w w' := by
  rw [← at10_six a, ← at10_six b, ← sgn_numc]
  exact rcmp_good a.n a.m b.n b.m w ((rightS_iff a.m).2 ha) ((rightS_iff b.m).2 hb) ia.1.1 ia.1.2 ib.1.1 ib.1.2

set_option maxHeartbeats 1000000 in
theorem rbinary_any (op : Int) (a b : Va) (w : World) (ia : vin a) (ib : vin b) :
    Calls Tryz.prog 17 #[.int .i64 op, vv a, vv b] w fun e w' => e = .returned (rs (binR op a b)) ∧ Below w.heap.size w w' := by
  have Ra : Tells 46 #[vv a] w (.bool (vr a)) := fun W _ => rright_any a.k a.n a.m ⟨a.b.toArray⟩ W
  have Rb : Tells 46 #[vv b] w (.bool (vr b)) := fun W _ => rright_any b.k b.n b.m ⟨b.b.toArray⟩ W
  have Na : Tells 47 #[vv a] w (.bool (a.k == 0)) := fun W _ => (rnull7_any a.k a.n a.m ⟨a.b.toArray⟩ W).mono fun _ _ h => ⟨h.1, h.2.below⟩
  have Nb : Tells 47 #[vv b] w (.bool (b.k == 0)) := fun W _ => (rnull7_any b.k b.n b.m ⟨b.b.toArray⟩ W).mono fun _ _ h => ⟨h.1, h.2.below⟩
  have Ma : Tells 70 #[vv a] w (.bool (a.k == 1 || a.k == 2)) := fun W _ => (rnumber7_any a.k a.n a.m ⟨a.b.toArray⟩ W).mono fun _ _ h => ⟨h.1, h.2.below⟩
  have Mb : Tells 70 #[vv b] w (.bool (b.k == 1 || b.k == 2)) := fun W _ => (rnumber7_any b.k b.n b.m ⟨b.b.toArray⟩ W).mono fun _ _ h => ⟨h.1, h.2.below⟩
  have Of : ∀ t, Tells 48 #[.int .i64 t] w (vv (vO t)) := fun t W _ => by
    have := rof_any t W
    rw [vof_vO] at this
    exact this.mono fun _ _ h => ⟨h.1, h.2.below⟩
  unfold binR
  by_cases o1 : op < 6
  · rw [if_pos (by omega)]
    exact rbin_low op a.k b.k a.n a.m b.n b.m a.b b.b w o1
  by_cases o2 : op > 18
  · rw [if_pos (by omega)]
    exact rbin_high op a.k b.k a.n a.m b.n b.m a.b b.b w o1 o2
  cases ha : vr a
  · rw [ha] at Ra
    rw [if_pos (by simp)]
    exact rbin_badA op a.k b.k a.n a.m b.n b.m a.b b.b w o1 o2 Ra
  rw [ha] at Ra
  cases hb : vr b
  · rw [hb] at Rb
    rw [if_pos (by simp)]
    exact rbin_badB op a.k b.k a.n a.m b.n b.m a.b b.b w o1 o2 Ra Rb
  rw [hb] at Rb
  rw [if_neg (by simp; omega)]
  by_cases h17 : op = 17 ∨ op = 18
  · rw [if_pos h17]
    have T1 : Tells 49 #[vv a] w (.tuple #[.int .i64 (tN a), .bool (tB a)]) := fun W _ => rtruth_any a.k a.n a.m ⟨a.b.toArray⟩ W
    have T2 : Tells 49 #[vv b] w (.tuple #[.int .i64 (tN b), .bool (tB b)]) := fun W _ => rtruth_any b.k b.n b.m ⟨b.b.toArray⟩ W
    unfold truR
    cases hx : tB a
    · rw [hx] at T1
      rw [if_neg (by simp)]
      rcases h17 with rfl | rfl
      · exact rbin_tf17 a.k b.k a.n a.m b.n b.m a.b b.b w _ _ _ Ra Rb T1 T2
      · exact rbin_tf18 a.k b.k a.n a.m b.n b.m a.b b.b w _ _ _ Ra Rb T1 T2
    rw [hx] at T1
    cases hy : tB b
    · rw [hy] at T2
      rw [if_neg (by simp)]
      rcases h17 with rfl | rfl
      · exact rbin_ft17 a.k b.k a.n a.m b.n b.m a.b b.b w _ _ Ra Rb T1 T2
      · exact rbin_ft18 a.k b.k a.n a.m b.n b.m a.b b.b w _ _ Ra Rb T1 T2
    rw [hy] at T2
    rw [if_pos (by rfl)]
    rcases h17 with rfl | rfl
    · rw [if_pos rfl]
      exact rbin_t17 a.k b.k a.n a.m b.n b.m a.b b.b w _ _ _ _ _ _ _ Ra Rb T1 T2 (fun W _ => (rand_any (tN a) (tN b) W).mono fun _ _ h => ⟨h.1, h.2 ▸ Below.refl _ _⟩) (Of _)
    · rw [if_neg (by decide)]
      exact rbin_t18 a.k b.k a.n a.m b.n b.m a.b b.b w _ _ _ _ _ _ _ Ra Rb T1 T2 (fun W _ => (ror_any (tN a) (tN b) W).mono fun _ _ h => ⟨h.1, h.2 ▸ Below.refl _ _⟩) (Of _)
  rw [if_neg h17]
  have o3 : ¬ op ≥ 17 := by omega
  by_cases a0 : a.k = 0
  · rw [if_pos (.inl a0)]
    rw [show (a.k == 0) = true by simpa using a0] at Na
    exact rbin_nullA op a.k b.k a.n a.m b.n b.m a.b b.b w o1 o2 o3 Ra Rb Na
  rw [show (a.k == 0) = false by simpa using a0] at Na
  by_cases b0 : b.k = 0
  · rw [if_pos (.inr b0)]
    rw [show (b.k == 0) = true by simpa using b0] at Nb
    exact rbin_nullB op a.k b.k a.n a.m b.n b.m a.b b.b w o1 o2 o3 Ra Rb Na Nb
  rw [show (b.k == 0) = false by simpa using b0] at Nb
  rw [if_neg (by omega)]
  by_cases o4 : op ≤ 10
  · exact rbin_reck op a.k b.k a.n a.m b.n b.m a.b b.b w _ _ _ _ _ o1 o2 o4 Ra Rb Na Nb (fun W _ => (rreckon_any op a b W (by omega) o4 ha hb a0 ia ib).mono fun _ _ h => ⟨h.1, h.2.below⟩)
  have va' := (vr_iff a).1 ha
  have vb' := (vr_iff b).1 hb
  have HH : ∀ c, Tells 72 #[.int .i64 op, .int .i64 c] w (.bool (hb7 op c)) := fun c W _ => (rholds_any op c W).mono fun _ _ h => ⟨h.1, h.2 ▸ Below.refl _ _⟩
  have TT : ∀ x, Tells 71 #[.bool x] w (vv (vB x)) := fun x W _ => (rtruth7_any x W).mono fun _ _ h => ⟨h.1, h.2.below⟩
  have CC : Tells 74 #[vv a, vv b] w (.int .i64 (pcmp a b)) := fun W _ => rcompare_any a.k a.n a.m ⟨a.b.toArray⟩ b.k b.n b.m ⟨b.b.toArray⟩ W ia ib
  have hc : ∀ c, cmpR op c = (vB (hb7 op c), 0) := fun c => cmpR_hb op c (by omega) (by omega)
  by_cases hn : isn a ∧ isn b
  · rw [show (a.k == 1 || a.k == 2) = true by rcases hn.1 with h | h <;> simp [h]] at Ma
    rw [show (b.k == 1 || b.k == 2) = true by rcases hn.2 with h | h <;> simp [h]] at Mb
    have sa := num_scale hn.1 ha
    have sb := num_scale hn.2 hb
    have e : (if a.k = 1 ∧ b.k = 1 then intsR op a.n b.n else if isn a ∧ isn b then numsR op a b else if a.k = 5 ∧ b.k = 5 then ptsR op a b else if a.k = 3 ∧ b.k = 3 then txtR op a b else if a.k = 4 ∧ b.k = 4 then cmpR op (pcmp a b) else (nul, 31)) = cmpR op (numc (at6 a) (at6 b)) := by
      by_cases hi : a.k = 1 ∧ b.k = 1
      · rw [if_pos hi]
        unfold intsR
        rw [if_neg (by omega), if_neg (by omega), if_neg (by omega), if_neg (by omega), if_neg (by omega)]
        have ma : a.m = 0 := by simp only [vok] at va'; omega
        have mb : b.m = 0 := by simp only [vok] at vb'; omega
        congr 1
        unfold at6
        rw [ma, mb]
        unfold numc
        have p6 : (10 : Int) ^ (6 - (0 : Int)).toNat = 1000000 := by decide
        rw [p6]
        split <;> split <;> (try split) <;> (try split) <;> omega
      · rw [if_neg hi, if_pos hn]
        unfold numsR
        rw [if_neg (by omega), if_neg (by omega), if_neg (by omega), if_neg (by omega)]
    rw [e, hc]
    exact rbin_nums op a.k b.k a.n a.m b.n b.m a.b b.b w _ _ _ _ o1 o2 o3 o4 Ra Rb Na Nb Ma Mb _ (fun W => rcmp_six a b W sa sb ia ib) (fun W => rtruth7_any _ W)
  rw [if_neg (fun h => hn ⟨.inl h.1, .inl h.2⟩), if_neg hn]
  by_cases hk : a.k = b.k
  · have hna : ¬ isn a := fun h => hn ⟨h, by unfold isn at *; omega⟩
    rw [show (a.k == 1 || a.k == 2) = false by unfold isn at hna; simp; omega] at Ma
    have e : (if a.k = 5 ∧ b.k = 5 then ptsR op a b else if a.k = 3 ∧ b.k = 3 then txtR op a b else if a.k = 4 ∧ b.k = 4 then cmpR op (pcmp a b) else (nul, 31)) = cmpR op (pcmp a b) := by
      have : a.k = 3 ∨ a.k = 4 ∨ a.k = 5 := by unfold isn at hna; simp only [vok] at va'; omega
      rcases this with h | h | h
      · rw [if_neg (by omega), if_pos (by omega)]
        unfold txtR
        rw [if_neg (by omega)]
      · rw [if_neg (by omega), if_neg (by omega), if_pos (by omega)]
      · rw [if_pos (by omega)]
        unfold ptsR
        rw [if_neg (by omega), if_neg (by omega), if_neg (by omega), if_neg (by omega), if_neg (by omega)]
    rw [e, hc]
    obtain ⟨ak, an, am, ab⟩ := a
    obtain ⟨bk, bn, bm, bb⟩ := b
    simp only at hk
    subst hk
    exact rbin_cmpF op ak an am bn bm ab bb w _ _ _ _ o1 o2 o3 o4 Ra Rb Na Nb Ma _ CC (HH _) (TT _)
  · rw [if_neg (by omega), if_neg (by omega), if_neg (by omega)]
    have ek : (a.k != b.k) = true := by simpa using hk
    by_cases hna : isn a
    · rw [show (a.k == 1 || a.k == 2) = true by rcases hna with h | h <;> simp [h]] at Ma
      have hnb : ¬ isn b := fun h => hn ⟨hna, h⟩
      rw [show (b.k == 1 || b.k == 2) = false by unfold isn at hnb; simp; omega] at Mb
      exact rbin_othT op a.k b.k a.n a.m b.n b.m a.b b.b w o1 o2 o3 o4 ek Ra Rb Na Nb Ma Mb
    · rw [show (a.k == 1 || a.k == 2) = false by unfold isn at hna; simp; omega] at Ma
      exact rbin_othF op a.k b.k a.n a.m b.n b.m a.b b.b w o1 o2 o3 o4 ek Ra Rb Na Nb Ma
end Go.Proofs.YtgapmofhnjfdiaaGreatDoor

namespace Go.Proofs.YtgapmofhnjfdiaaGreatDoor
open Go.RowKit Go.Shelf
attribute [local go_sem] cell?_more frozen?_more setCell_more more_lt more_more more_drew more_drewN setCell_drewN alloc_drewN cell?_drawTo frozen?_drawTo heap_drawTo setCell_drawTo alloc_drawTo drewN_drawTo drew_drawTo drawTo_drewN drawTo_drew drawTo_drawTo more_drawTo

set_option maxRecDepth 20000 in
set_option maxHeartbeats 4000000 in
theorem steps_walk (op ak an am bk bn bm : Int) (ab bb : List UInt8) (vk vn vm ve uk un um ue : Int) (vb ub : List UInt8) (w : World)
    (M1 : Tells 14 #[.int .i64 op, va ak an am ⟨ab.toArray⟩] w (.tuple #[va vk vn vm ⟨vb.toArray⟩, .int .i64 ve]))
    (M2 : Tells 15 #[.int .i64 op, va ak an am ⟨ab.toArray⟩] w (.tuple #[va vk vn vm ⟨vb.toArray⟩, .int .i64 ve]))
    (M3 : Tells 16 #[.int .i64 op, va ak an am ⟨ab.toArray⟩, va bk bn bm ⟨bb.toArray⟩] w (.tuple #[va uk un um ⟨ub.toArray⟩, .int .i64 ue]))
    (M4 : Tells 17 #[.int .i64 op, va ak an am ⟨ab.toArray⟩, va bk bn bm ⟨bb.toArray⟩] w (.tuple #[va uk un um ⟨ub.toArray⟩, .int .i64 ue]))
    (K : Tells 20 #[] w (.bool true)) :
    Calls Tryz.prog 4 #[.int .i64 op, va ak an am ⟨ab.toArray⟩, va bk bn bm ⟨bb.toArray⟩] w fun e w' => e = .returned (.bool true) ∧ Below w.heap.size w w' := by
  obtain ⟨w0, hw0, ha, hb, G⟩ := both_box w ⟨ak, an, am, ab⟩ ⟨bk, bn, bm, bb⟩
  dsimp only at hw0
  have N := fun n W => qnum7_any n W
  have SS := fun k n m b W => rsame_self k n m b W
  replace K := K.later G
  replace M1 := M1.later G
  replace M2 := M2.later G
  replace M3 := M3.later G
  replace M4 := M4.later G
  go_enter Tryz.func4, Tryz.ntmps4
  go_upto_region 1 with fail
  rw [← hw0]
  clear hw0
  obtain ⟨k0a, k0b, k0c, k0d⟩ := id ha
  have k0l := ha.lt
  simp only [Nat.zero_add] at k0b k0c k0d
  obtain ⟨k1a, k1b, k1c, k1d⟩ := id hb
  have k1l := hb.lt
  simp only [Nat.zero_add] at k1b k1c k1d
  go_cut [7, 8] from 15 (fun s0 s1 wx => ∃ p : Nat, s0 = .pointer (some ⟨p, 0, none⟩) ∧ s1 = .int .i64 ve ∧ At4 wx p 0 ⟨vk, vn, vm, vb⟩ ∧ Below w0.heap.size w0 wx)
  case first =>
    clear K N SS M2 M3 M4
    go_wp2_with (first
      | (go_at_call 14; refine (M1 _ (Grown.below (by repeat (first | assumption | exact Grown.refl _ | apply Grown.drew | apply Grown.drewN | apply Grown.alloc | apply Grown.more | apply Grown.drawTo)))).mono ?_; rintro e wc ⟨rfl, bc⟩; obtain ⟨osc, dc, rfl⟩ := wide bc; clear bc))
    all_goals go_meet
    all_goals exact ⟨_, rfl, rfl, ⟨by simp (maxDischargeDepth := 12) [go_sem], by simp (maxDischargeDepth := 12) [go_sem], by simp (maxDischargeDepth := 12) [go_sem], by simp (maxDischargeDepth := 12) [go_sem]⟩, Grown.below (by repeat (first | assumption | exact Grown.refl _ | apply Grown.drew | apply Grown.drewN | apply Grown.alloc | apply Grown.more | apply Grown.drawTo))⟩
  rename World => v1
  obtain ⟨p1, rfl, rfl, hp1, gv1⟩ := hcut
  clear k0a k0b k0c k0d k0l k1a k1b k1c k1d k1l
  replace ha := ha.later gv1
  replace hb := hb.later gv1
  replace K := K.later gv1
  replace M1 := M1.later gv1
  replace M2 := M2.later gv1
  replace M3 := M3.later gv1
  replace M4 := M4.later gv1
  replace G := below_trans G gv1
  clear gv1
  go_upto_region 2 with fail
  obtain ⟨k0a, k0b, k0c, k0d⟩ := id ha
  have k0l := ha.lt
  simp only [Nat.zero_add] at k0b k0c k0d
  obtain ⟨k1a, k1b, k1c, k1d⟩ := id hb
  have k1l := hb.lt
  simp only [Nat.zero_add] at k1b k1c k1d
  obtain ⟨k2a, k2b, k2c, k2d⟩ := id hp1
  have k2l := hp1.lt
  simp only [Nat.zero_add] at k2b k2c k2d
  go_cut [9, 10] from 15 (fun s0 s1 wx => ∃ p : Nat, s0 = .pointer (some ⟨p, 0, none⟩) ∧ s1 = .int .i64 ve ∧ At4 wx p 0 ⟨vk, vn, vm, vb⟩ ∧ Below v1.heap.size v1 wx)
  case first =>
    clear K N SS M1 M3 M4
    go_wp2_with (first
      | (go_at_call 15; refine (M2 _ (Grown.below (by repeat (first | assumption | exact Grown.refl _ | apply Grown.drew | apply Grown.drewN | apply Grown.alloc | apply Grown.more | apply Grown.drawTo)))).mono ?_; rintro e wc ⟨rfl, bc⟩; obtain ⟨osc, dc, rfl⟩ := wide bc; clear bc))
    all_goals go_meet
    all_goals exact ⟨_, rfl, rfl, ⟨by simp (maxDischargeDepth := 12) [go_sem], by simp (maxDischargeDepth := 12) [go_sem], by simp (maxDischargeDepth := 12) [go_sem], by simp (maxDischargeDepth := 12) [go_sem]⟩, Grown.below (by repeat (first | assumption | exact Grown.refl _ | apply Grown.drew | apply Grown.drewN | apply Grown.alloc | apply Grown.more | apply Grown.drawTo))⟩
  rename World => v2
  obtain ⟨p2, rfl, rfl, hp2, gv2⟩ := hcut
  clear k0a k0b k0c k0d k0l k1a k1b k1c k1d k1l k2a k2b k2c k2d k2l
  replace ha := ha.later gv2
  replace hb := hb.later gv2
  replace hp1 := hp1.later gv2
  replace K := K.later gv2
  replace M1 := M1.later gv2
  replace M2 := M2.later gv2
  replace M3 := M3.later gv2
  replace M4 := M4.later gv2
  replace G := below_trans G gv2
  clear gv2
  go_upto_region 3 with fail
  obtain ⟨k0a, k0b, k0c, k0d⟩ := id ha
  have k0l := ha.lt
  simp only [Nat.zero_add] at k0b k0c k0d
  obtain ⟨k1a, k1b, k1c, k1d⟩ := id hb
  have k1l := hb.lt
  simp only [Nat.zero_add] at k1b k1c k1d
  obtain ⟨k2a, k2b, k2c, k2d⟩ := id hp1
  have k2l := hp1.lt
  simp only [Nat.zero_add] at k2b k2c k2d
  obtain ⟨k3a, k3b, k3c, k3d⟩ := id hp2
  have k3l := hp2.lt
  simp only [Nat.zero_add] at k3b k3c k3d
  go_cut [11, 12] from 15 (fun s0 s1 wx => ∃ p : Nat, s0 = .pointer (some ⟨p, 0, none⟩) ∧ s1 = .int .i64 ue ∧ At4 wx p 0 ⟨uk, un, um, ub⟩ ∧ Below v2.heap.size v2 wx)
  case first =>
    clear K N SS M1 M2 M4
    go_wp2_with (first
      | (go_at_call 16; refine (M3 _ (Grown.below (by repeat (first | assumption | exact Grown.refl _ | apply Grown.drew | apply Grown.drewN | apply Grown.alloc | apply Grown.more | apply Grown.drawTo)))).mono ?_; rintro e wc ⟨rfl, bc⟩; obtain ⟨osc, dc, rfl⟩ := wide bc; clear bc))
    all_goals go_meet
    all_goals exact ⟨_, rfl, rfl, ⟨by simp (maxDischargeDepth := 12) [go_sem], by simp (maxDischargeDepth := 12) [go_sem], by simp (maxDischargeDepth := 12) [go_sem], by simp (maxDischargeDepth := 12) [go_sem]⟩, Grown.below (by repeat (first | assumption | exact Grown.refl _ | apply Grown.drew | apply Grown.drewN | apply Grown.alloc | apply Grown.more | apply Grown.drawTo))⟩
  rename World => v3
  obtain ⟨p3, rfl, rfl, hp3, gv3⟩ := hcut
  clear k0a k0b k0c k0d k0l k1a k1b k1c k1d k1l k2a k2b k2c k2d k2l k3a k3b k3c k3d k3l
  replace ha := ha.later gv3
  replace hb := hb.later gv3
  replace hp1 := hp1.later gv3
  replace hp2 := hp2.later gv3
  replace K := K.later gv3
  replace M1 := M1.later gv3
  replace M2 := M2.later gv3
  replace M3 := M3.later gv3
  replace M4 := M4.later gv3
  replace G := below_trans G gv3
  clear gv3
  go_upto_region 4 with fail
  obtain ⟨k0a, k0b, k0c, k0d⟩ := id ha
  have k0l := ha.lt
  simp only [Nat.zero_add] at k0b k0c k0d
  obtain ⟨k1a, k1b, k1c, k1d⟩ := id hb
  have k1l := hb.lt
  simp only [Nat.zero_add] at k1b k1c k1d
  obtain ⟨k2a, k2b, k2c, k2d⟩ := id hp1
  have k2l := hp1.lt
  simp only [Nat.zero_add] at k2b k2c k2d
  obtain ⟨k3a, k3b, k3c, k3d⟩ := id hp2
  have k3l := hp2.lt
  simp only [Nat.zero_add] at k3b k3c k3d
  obtain ⟨k4a, k4b, k4c, k4d⟩ := id hp3
  have k4l := hp3.lt
  simp only [Nat.zero_add] at k4b k4c k4d
  go_cut [13, 14] from 15 (fun s0 s1 wx => ∃ p : Nat, s0 = .pointer (some ⟨p, 0, none⟩) ∧ s1 = .int .i64 ue ∧ At4 wx p 0 ⟨uk, un, um, ub⟩ ∧ Below v3.heap.size v3 wx)
  case first =>
    clear K N SS M1 M2 M3
    go_wp2_with (first
      | (go_at_call 17; refine (M4 _ (Grown.below (by repeat (first | assumption | exact Grown.refl _ | apply Grown.drew | apply Grown.drewN | apply Grown.alloc | apply Grown.more | apply Grown.drawTo)))).mono ?_; rintro e wc ⟨rfl, bc⟩; obtain ⟨osc, dc, rfl⟩ := wide bc; clear bc))
    all_goals go_meet
    all_goals exact ⟨_, rfl, rfl, ⟨by simp (maxDischargeDepth := 12) [go_sem], by simp (maxDischargeDepth := 12) [go_sem], by simp (maxDischargeDepth := 12) [go_sem], by simp (maxDischargeDepth := 12) [go_sem]⟩, Grown.below (by repeat (first | assumption | exact Grown.refl _ | apply Grown.drew | apply Grown.drewN | apply Grown.alloc | apply Grown.more | apply Grown.drawTo))⟩
  rename World => v4
  obtain ⟨p4, rfl, rfl, hp4, gv4⟩ := hcut
  clear k0a k0b k0c k0d k0l k1a k1b k1c k1d k1l k2a k2b k2c k2d k2l k3a k3b k3c k3d k3l k4a k4b k4c k4d k4l
  replace ha := ha.later gv4
  replace hb := hb.later gv4
  replace hp1 := hp1.later gv4
  replace hp2 := hp2.later gv4
  replace hp3 := hp3.later gv4
  replace K := K.later gv4
  replace M1 := M1.later gv4
  replace M2 := M2.later gv4
  replace M3 := M3.later gv4
  replace M4 := M4.later gv4
  replace G := below_trans G gv4
  clear gv4
  clear M1 M2 M3 M4 ha hb
  obtain ⟨k0a, k0b, k0c, k0d⟩ := id hp1
  have k0l := hp1.lt
  simp only [Nat.zero_add] at k0b k0c k0d
  obtain ⟨k1a, k1b, k1c, k1d⟩ := id hp2
  have k1l := hp2.lt
  simp only [Nat.zero_add] at k1b k1c k1d
  obtain ⟨k2a, k2b, k2c, k2d⟩ := id hp3
  have k2l := hp3.lt
  simp only [Nat.zero_add] at k2b k2c k2d
  obtain ⟨k3a, k3b, k3c, k3d⟩ := id hp4
  have k3l := hp4.lt
  simp only [Nat.zero_add] at k3b k3c k3d
  go_wp2_with (first
    | (go_at_call 19; refine (N _ _).mono ?_; rintro e wc ⟨rfl, rfl⟩)
    | (go_at_call 18; refine (SS _ _ _ _ _).mono ?_; rintro e wc ⟨rfl, osc, nc, rfl⟩)
    | (go_at_call 20; refine (K _ (Grown.below (by repeat (first | assumption | exact Grown.refl _ | apply Grown.drew | apply Grown.drewN | apply Grown.alloc | apply Grown.more | apply Grown.drawTo)))).mono ?_; rintro e wc ⟨rfl, bc⟩))
  go_ret
  exact ⟨rfl, below_trans (below_trans G (Grown.below (by repeat (first | assumption | exact Grown.refl _ | apply Grown.drew | apply Grown.drewN | apply Grown.alloc | apply Grown.more | apply Grown.drawTo)))) bc⟩

theorem steps_all (op : Int) (a b : Va) (w : World) (hT : Tabs w) (hP : Pw w) (ia : vin a) (ib : vin b) :
    Calls Tryz.prog 4 #[.int .i64 op, vv a, vv b] w fun e w' => e = .returned (.bool true) ∧ Below w.heap.size w w' :=
  steps_walk op a.k a.n a.m b.k b.n b.m a.b b.b _ _ _ _ _ _ _ _ _ _ w (fun W h => qun_any op a W (hT.later h) (hP.below h) ia) (fun W _ => runary_any op a W ia)
    (fun W h => qbin_any op a b W (hT.later h) (hP.below h) ia ib) (fun W _ => rbinary_any op a b W ia ib) (fun W h => knows7_any W (hT.later h) (hP.below h))
end Go.Proofs.YtgapmofhnjfdiaaGreatDoor

namespace Go.Proofs.YtgapmofhnjfdiaaGreatDoor
open Go.ChangeShapes Go.WideShapes Go.ChangeAt Go.WideMaps Go.WideElems Go.RowKit Go.Shelf Go.Lib

set_option maxRecDepth 100000 in
theorem stp_lifted (os : Os) (started : os.Started) (H : Type) (enc : TypeId × Value → H) :
    ReturnsInHanded {} Tryz.checked os 4 .any (fun w args => (Rows.evalStepsSpec.pre enc Tryz.prog Tryz.f4 [] false w args ∧ laidMetH Tryz.prog Rows.evalStepsRow.laid w) ∧ sizedMet enc Tryz.prog Tryz.f4 (OpenSpec.ofChange Rows.evalStepsSpec) false w args)
      (Rows.evalStepsSpec.post enc Tryz.prog Tryz.f4 false true false false) := by
  refine returnsInHanded_of_change_and (C := Tryz.checked) (X := fun w _ => laidMetH Tryz.prog Rows.evalStepsRow.laid w) (fun _ _ _ hh h => h.of_heap hh) own started (by kernel_rfl) Tryz.func4
    (ChangeSpec.witness_shaped (enc := enc) (C := Tryz.checked) (os := os) (X := fun w _ => laidMetH Tryz.prog Rows.evalStepsRow.laid w) false (World.laidAll Tryz.prog os Rows.evalStepsRow.laid) #[.int .i64 0, .agg #[.int .i64 0, .int .i64 0, .int .i64 0, .string ⟨#[]⟩], .agg #[.int .i64 0, .int .i64 0, .int .i64 0, .string ⟨#[]⟩]] 8 (World.laidAll_os _ _ _)
      (World.shaped_of_ZipB (by kernel_rfl) (by kernel_rfl)) (by kernel_rfl) (by kernel_rfl) (by kernel_rfl)
      (by rw [MakeChecks.laidMetH_plain _ _ _ (by kernel_rfl)]; exact laidMet_laidAll _ (by kernel_rfl) (by kernel_rfl))) ?_
  intro W base args ds gs before hval0 hW _ _ hL _
  have hval : ∀ (j : Nat) t v, Tryz.f4.params[j]? = some t → args[j]? = some v → Value.okWide Tryz.prog W .any base t v := hval0
  have hW' := hW
  obtain ⟨p, q, hA0, hV, rfl, hfz, hnd⟩ := hW
  have hA : DataW.TrodAll enc Tryz.prog W 0 (fun _ => true) true Tryz.f4.params.toList args.toList ds p := hA0
  rw [Tryz.params4] at hA hval
  obtain ⟨v0, v1, v2, d0, d1, d2, p0, p1, p2, rfl, rfl, rfl, h0, h1, h2⟩ := trodAll_three hA
  obtain ⟨rfl, rfl⟩ := trodVars_none hV
  obtain ⟨a0, rfl, rfl, rfl, w0⟩ := open_int Tryz.underlying3 (hval 0 3 v0 rfl rfl) h0
  have b0 := bounds_i64 w0
  obtain ⟨cs1, rfl, _⟩ := okWide_struct Tryz.underlying30 (hval 1 30 v1 rfl rfl)
  have k1 := h1
  have lt1 : ∀ x ∈ p1, x.block < W.heap.size := by obtain ⟨m, hm⟩ := k1; exact DataW.trod_lt m _ _ _ hm
  obtain ⟨f1, hf1⟩ := h1
  obtain ⟨x1, ex1, vi1, ki1, bl1⟩ := val_cells hf1
  obtain rfl : cs1 = #[.int .i64 x1.k, .int .i64 x1.n, .int .i64 x1.m, .string ⟨x1.b.toArray⟩] := by obtain ⟨l⟩ := cs1; exact congrArg List.toArray ex1
  obtain ⟨cs2, rfl, _⟩ := okWide_struct Tryz.underlying30 (hval 2 30 v2 rfl rfl)
  have k2 := h2
  have lt2 : ∀ x ∈ p2, x.block < W.heap.size := by obtain ⟨m, hm⟩ := k2; exact DataW.trod_lt m _ _ _ hm
  obtain ⟨f2, hf2⟩ := h2
  obtain ⟨x2, ex2, vi2, ki2, bl2⟩ := val_cells hf2
  obtain rfl : cs2 = #[.int .i64 x2.k, .int .i64 x2.n, .int .i64 x2.m, .string ⟨x2.b.toArray⟩] := by obtain ⟨l⟩ := cs2; exact congrArg List.toArray ex2
  clear hA0 hval0
  rw [MakeChecks.laidMetH_plain _ _ _ (by kernel_rfl)] at hL
  have hT : Tabs W := tabs_of (Lib.laidMet.reads hL (.tail _ (.tail _ (.head _)))) (Lib.laidMet.reads hL (.head _))
  have hPw : Pw W := pw_of (Lib.laidMet.reads hL (.tail _ (.head _)))
  refine (steps_all a0 x1 x2 W hT hPw vi1 vi2).mono fun e W' ⟨he, bel⟩ => ?_
  subst he
  exact ⟨_, rfl, _, _, _, [], _, [], hW', trodAll_mk1 (shut_bool Tryz.underlying4 _), trodAll_mk3 (shut_int Tryz.underlying3 w0) (Below.trod laidOut (by kernel_rfl) (of_decide_eq_true (by kernel_rfl)) k1 bel lt1) (Below.trod laidOut (by kernel_rfl) (of_decide_eq_true (by kernel_rfl)) k2 bel lt2), rfl, bel.frame _, fun h => by cases h⟩

end Go.Proofs.YtgapmofhnjfdiaaGreatDoor
