/-
  The document's Get of whatever bytes.
-/
import Derived.Test.YtafmchgncahafaaGreatDoorByF
import Derived.Test.YtafmchgncahafaaGreatDoorMHVOrd1
import Derived.Deep.AppendLies
namespace Go.Proofs.YtafmchgncahafaaGreatDoor.By
open Go.RowKit Go.Proofs.YtafmchgncahafaaGreatDoor.Co Go.Proofs.YtafmchgncahafaaGreatDoor.Bk
attribute [local go_sem] cell?_more frozen?_more setCell_more more_lt more_more more_drew more_drewN setCell_drewN alloc_drewN

theorem vs_of {w : World} {base : Nat} {v : Value} {st : List Va} (h : Vk w base v st) : ∃ ao cap, v = .slice ao st.length cap ∧ Vs w ao st := by
  obtain ⟨ao, cap, hv, _, h3, _, h5⟩ := Vk.shape h
  refine ⟨ao, cap, hv, fun hp => ?_⟩
  cases ao with
  | none => rw [(h3 rfl).1] at hp; simp at hp
  | some a =>
    obtain ⟨g, rfl, _, _, hat⟩ := h5 a rfl
    exact ⟨g, 0, rfl, fun i hi => by rw [Nat.zero_add]; exact hat i hi⟩
set_option maxRecDepth 20000 in
set_option maxHeartbeats 4000000 in
theorem from_neg (p : Nat) (bs : List UInt8) (cn : Int) (ka ea : Nat) (w : World) (h : RRdr w p bs 0 0) (h0 : rNum bs 0 0 = (cn, ka, ea)) (hn : cn < 0) :
    Calls Tryz.prog 27 #[.pointer (some ⟨p, 0, none⟩)] w fun x w' => ∃ v, x = .returned v ∧ Vk w' w.heap.size v [] ∧ RRdr w' p bs ka 21 ∧ w.grownBy w' (some p) := by
  have hn' : ¬ (0 : Int) < cn := by omega
  go_enter Tryz.func27, Tryz.ntmps27
  go_wp2_with fail
  have N1 := rrNumber_any p bs 0 0 w h
  rw [h0] at N1
  refine N1.mono ?_
  rintro x w1 ⟨rfl, R1, g1⟩
  dsimp only at R1 ⊢
  clear N1 h0 h
  go_wp2_with fail
  go_loopw [4, 5] (fun r4 r5 wr => r4 = .slice none 0 0 ∧ r5 = .int .i64 0 ∧ w1 = wr) (fun _ _ _ => 0)
  case atStart => exact ⟨rfl, rfl, rfl⟩
  case round =>
    obtain ⟨rfl, rfl, rfl⟩ := hrel
    obtain ⟨R2, g2⟩ := rr_err 21 R1
    obtain ⟨ao, cap, hC, _⟩ := R1
    obtain ⟨c0, c1, c2⟩ := rrCell w1 hC
    have f2 : w1.frozen? ⟨p, 2, none⟩ = false := by simp [World.frozen?, hC]
    clear hC
    go_wp2
    refine bodyPost_ret_by (v := .slice none 0 0) ?_ rfl ⟨_, rfl, World.ownsRow_nil _ _ _ _, R2, gb_step g1 g2⟩
    simp [results, Tryz.results27, go_sem]
theorem from_all (p : Nat) (bs : List UInt8) (w : World) (h : RRdr w p bs 0 0) :
    Calls Tryz.prog 27 #[.pointer (some ⟨p, 0, none⟩)] w fun x w' => ∃ v, x = .returned v ∧ Vk w' w.heap.size v (frD bs).1 ∧ RRdr w' p bs (frD bs).2.1 (frD bs).2.2 ∧ w.grownBy w' (some p) := by
  unfold frD
  rcases h0 : rNum bs 0 0 with ⟨cn, ka, ea⟩
  dsimp only
  by_cases hn : cn < 0
  · rw [if_pos hn]; exact from_neg p bs cn ka ea w h h0 hn
  · rw [if_neg hn]
    rcases hr : rdR bs (min cn.toNat 65) ka ea with ⟨L, K, E⟩
    exact from_any p bs cn ka ea L K E w h h0 (by omega) hr
/-- How the document's Get ends. -/
def getR (R : Option (List Va)) (e : Ending) (w' : World) : Prop := match R with
  | none => e = .returned (.tuple #[.slice none 0 0, .int .i64 21])
  | some l => ∃ ao cap, e = .returned (.tuple #[.slice ao l.length cap, .int .i64 0]) ∧ Vs w' ao l
set_option maxRecDepth 20000 in
set_option maxHeartbeats 4000000 in
theorem rget_any (ao : Option Addr) (cap : Nat) (bs : List UInt8) (w : World) (hR : Rd w ao bs.length cap bs) (hlen : bs.length ≤ 140737488351232) :
    Calls Tryz.prog 9 #[.slice ao bs.length cap] w fun e w' => getR (rget bs) e w' ∧ Below w.heap.size w w' := by
  unfold rget
  have FR := fun p W h => from_all p bs W h
  have hll : (frD bs).1.length ≤ 65 := by
    unfold frD
    split
    · simp
    · have := (rdR_len bs (min (rNum bs 0 0).1.toNat 65) (rNum bs 0 0).2.1 (rNum bs 0 0).2.2).1; omega
  rcases hq : frD bs with ⟨L, K, E⟩
  rw [hq] at FR hll
  dsimp only at FR hll ⊢
  have RW : ∀ ao' cap' W, Vs W ao' L → _ := fun ao' cap' W hV => rrow_any ao' cap' L W hV (by omega)
  by_cases hD : rDone bs K E = 0
  · by_cases hC : ckE L = 0
    · rw [if_pos ⟨hD, hC⟩]
      have hc : (ckE L == 0) = true := by simpa using hC
      rw [hc] at RW
      go_enter Tryz.func9, Tryz.ntmps9
      go_wp2_with fail
      refine (rnewReader_wide ao _ cap bs w hR hlen).mono ?_
      rintro x w1 ⟨p, rfl, hp, R1, b1⟩
      go_wp2_with fail
      refine (FR p _ R1).mono ?_
      rintro x w2 ⟨v, rfl, O2, R2, g2⟩
      have B2 : Below w.heap.size w w2 := b1.trans (gb_below g2 hp b1.size)
      obtain ⟨ao', cap', rfl, V2⟩ := vs_of O2
      have DN := rdone_any p bs K E w2 R2
      clear O2 R2 R1 g2 FR
      go_wp2_with fail
      rw [hD] at DN
      refine DN.mono ?_
      rintro x w3 ⟨rfl, nq, rfl⟩
      have uD : Below w2.heap.size w2 (w2.drewN nq) := ⟨rfl, rfl, rfl, Nat.le_refl _, fun _ _ => rfl⟩
      go_wp2_with fail
      refine (RW _ _ _ (V2.later uD)).mono ?_
      rintro x w4 ⟨rfl, b4⟩
      have B4 := below_trans (below_trans B2 uD) b4
      have V4 := (V2.later uD).later b4
      go_wp2
      refine bodyPost_ret_by (v := .tuple #[.slice ao' L.length cap', .int .i64 0]) ?_ rfl ⟨⟨_, _, rfl, V4⟩, B4⟩
      simp [results, Tryz.results9, go_sem]
    · rw [if_neg (fun c => hC c.2)]
      have hc : (ckE L == 0) = false := by simpa using hC
      rw [hc] at RW
      go_enter Tryz.func9, Tryz.ntmps9
      go_wp2_with fail
      refine (rnewReader_wide ao _ cap bs w hR hlen).mono ?_
      rintro x w1 ⟨p, rfl, hp, R1, b1⟩
      go_wp2_with fail
      refine (FR p _ R1).mono ?_
      rintro x w2 ⟨v, rfl, O2, R2, g2⟩
      have B2 : Below w.heap.size w w2 := b1.trans (gb_below g2 hp b1.size)
      obtain ⟨ao', cap', rfl, V2⟩ := vs_of O2
      have DN := rdone_any p bs K E w2 R2
      clear O2 R2 R1 g2 FR
      go_wp2_with fail
      rw [hD] at DN
      refine DN.mono ?_
      rintro x w3 ⟨rfl, nq, rfl⟩
      have uD : Below w2.heap.size w2 (w2.drewN nq) := ⟨rfl, rfl, rfl, Nat.le_refl _, fun _ _ => rfl⟩
      go_wp2_with fail
      refine (RW _ _ _ (V2.later uD)).mono ?_
      rintro x w4 ⟨rfl, b4⟩
      have B4 := below_trans (below_trans B2 uD) b4
      go_wp2
      refine bodyPost_ret_by (v := .tuple #[.slice none 0 0, .int .i64 21]) ?_ rfl ⟨rfl, B4⟩
      simp [results, Tryz.results9, go_sem]
  · rw [if_neg (fun c => hD c.1)]
    go_enter Tryz.func9, Tryz.ntmps9
    go_wp2_with fail
    refine (rnewReader_wide ao _ cap bs w hR hlen).mono ?_
    rintro x w1 ⟨p, rfl, hp, R1, b1⟩
    go_wp2_with fail
    refine (FR p _ R1).mono ?_
    rintro x w2 ⟨v, rfl, O2, R2, g2⟩
    have B2 : Below w.heap.size w w2 := b1.trans (gb_below g2 hp b1.size)
    obtain ⟨ao', cap', rfl, V2⟩ := vs_of O2
    have DN := rdone_any p bs K E w2 R2
    clear O2 R2 R1 g2 FR
    go_wp2_with fail
    generalize rDone bs K E = D at *
    refine DN.mono ?_
    rintro x w3 ⟨rfl, nq, rfl⟩
    have uD : Below w2.heap.size w2 (w2.drewN nq) := ⟨rfl, rfl, rfl, Nat.le_refl _, fun _ _ => rfl⟩
    have hD' : ((D : Int) != 0) = true := by simpa using hD
    have B4 := below_trans B2 uD
    go_wp2
    refine bodyPost_ret_by (v := .tuple #[.slice none 0 0, .int .i64 21]) ?_ rfl ⟨rfl, B4⟩
    simp [results, Tryz.results9, go_sem]
end Go.Proofs.YtafmchgncahafaaGreatDoor.By
