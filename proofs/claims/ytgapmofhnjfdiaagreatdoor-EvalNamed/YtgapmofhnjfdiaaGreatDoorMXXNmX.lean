/-
  The contract of eval.Eval, whole.
  longstoplaw04.Own gives a row of one's own.
  EvalNamed's walk, where all is as it must be.
  EvalNamed's early ends.
-/
import Derived.Test.YtgapmofhnjfdiaaGreatDoorXEval
import Derived.Test.YtgapmofhnjfdiaaGreatDoorMVXScope
import Derived.Test.YtgapmofhnjfdiaaGreatDoorMGXNdB
import Derived.Test.YtgapmofhnjfdiaaGreatDoorMOQUn
import Derived.Deep.CutRange
import Derived.Test.YtgapmofhnjfdiaaGreatDoorMBVOrd1
namespace Go.Proofs.YtgapmofhnjfdiaaGreatDoor
open Go.RowKit Go.Shelf
attribute [local go_sem] cell?_more frozen?_more setCell_more more_lt more_more more_drew more_drewN setCell_drewN alloc_drewN

set_option maxRecDepth 20000 in
set_option maxHeartbeats 4000000 in
theorem ev_bad1 (lo ta na ro : Option Addr) (lc tc nc rc n p q m : Nat) (w : World) 
    (RI : Tells 10 #[.slice lo n lc] w (.bool false)) :
    Calls Tryz.prog 28 #[.slice lo n lc, scv ta na p q tc nc, .slice ro m rc] w fun e w' => e = .returned (rs (nul, 1)) ∧ Below w.heap.size w w' := by
  have h1 := Cbox.new w #[.slice ta p tc, .slice na q nc] 56
  have h2 := Box.new (w.alloc (.cells #[.slice ta p tc, .slice na q nc] 56)) 0 0 0 []
  have B00 : Below w.heap.size w ((w.alloc (.cells #[.slice ta p tc, .slice na q nc] 56)).alloc (.cells #[.int .i64 0, .int .i64 0, .int .i64 0, .string ⟨#[]⟩] 30)) := ((Below.refl _ w).alloc (Nat.le_refl _) _).alloc (by simp) _
  simp only [World.size_alloc] at h2
  have h1' := h1.later ((Below.refl _ _).alloc (Nat.le_refl _) (.cells #[.int .i64 0, .int .i64 0, .int .i64 0, .string ⟨#[]⟩] 30))
  generalize hw0 : ((w.alloc (.cells #[.slice ta p tc, .slice na q nc] 56)).alloc (.cells #[.int .i64 0, .int .i64 0, .int .i64 0, .string ⟨#[]⟩] 30)) = w0 at h1' h2 B00
  clear h1
  have HX : Hid (Box w0 (w.heap.size + 1) nul) := h2
  have HS : Hid (Cbox w0 w.heap.size #[.slice ta p tc, .slice na q nc] 56) := h1'
  clear h1' h2
  go_enter Tryz.func28, Tryz.ntmps28
  go_upto_region 1 with fail
  try rw [hw0]
  clear hw0
  have R1 := RI w0 B00
  go_wp2_with fail
  refine R1.mono ?_
  rintro e wa ⟨rfl, ba⟩
  have Ba := below_trans B00 ba
  have HSa : Hid (Cbox wa w.heap.size #[.slice ta p tc, .slice na q nc] 56) := HS.out.later ba
  have c0 := HSa.out.at 0
  have c1 := HSa.out.at 1
  have cl := HSa.out.lt
  have bra := HX.out.later ba
  clear R1 RI
  have br := bra
  have lt1 := br.lt
  obtain ⟨r0, r1, r2, r3⟩ := br.at4
  dsimp only [nul] at r0 r1 r2 r3
  simp only [Nat.zero_add] at r1 r2 r3
  have f0 := br.free 0
  have f1 := br.free 1
  have f2 := br.free 2
  have f3 := br.free 3
  go_wp2
  refine bodyPost_ret_by (v := .tuple #[va 0 0 0 ⟨#[]⟩, .int .i64 1]) ?_ rfl ⟨rfl, res_kept Ba (by omega) _ _ _ _⟩
  simp [results, Tryz.results28, go_sem, r0, r1, r2, r3]

set_option maxRecDepth 20000 in
set_option maxHeartbeats 4000000 in
theorem ev_bad2 (lo ta na ro : Option Addr) (lc tc nc rc n p q m : Nat) (w : World) (h : ¬ p = m)
    (RI : Tells 10 #[.slice lo n lc] w (.bool true)) :
    Calls Tryz.prog 28 #[.slice lo n lc, scv ta na p q tc nc, .slice ro m rc] w fun e w' => e = .returned (rs (nul, 1)) ∧ Below w.heap.size w w' := by
  have h1 := Cbox.new w #[.slice ta p tc, .slice na q nc] 56
  have h2 := Box.new (w.alloc (.cells #[.slice ta p tc, .slice na q nc] 56)) 0 0 0 []
  have B00 : Below w.heap.size w ((w.alloc (.cells #[.slice ta p tc, .slice na q nc] 56)).alloc (.cells #[.int .i64 0, .int .i64 0, .int .i64 0, .string ⟨#[]⟩] 30)) := ((Below.refl _ w).alloc (Nat.le_refl _) _).alloc (by simp) _
  simp only [World.size_alloc] at h2
  have h1' := h1.later ((Below.refl _ _).alloc (Nat.le_refl _) (.cells #[.int .i64 0, .int .i64 0, .int .i64 0, .string ⟨#[]⟩] 30))
  generalize hw0 : ((w.alloc (.cells #[.slice ta p tc, .slice na q nc] 56)).alloc (.cells #[.int .i64 0, .int .i64 0, .int .i64 0, .string ⟨#[]⟩] 30)) = w0 at h1' h2 B00
  clear h1
  have HX : Hid (Box w0 (w.heap.size + 1) nul) := h2
  have HS : Hid (Cbox w0 w.heap.size #[.slice ta p tc, .slice na q nc] 56) := h1'
  clear h1' h2
  have h' : ¬ (p : Int) = (m : Int) := by omega
  clear h
  go_enter Tryz.func28, Tryz.ntmps28
  go_upto_region 1 with fail
  try rw [hw0]
  clear hw0
  have R1 := RI w0 B00
  go_wp2_with fail
  refine R1.mono ?_
  rintro e wa ⟨rfl, ba⟩
  have Ba := below_trans B00 ba
  have HSa : Hid (Cbox wa w.heap.size #[.slice ta p tc, .slice na q nc] 56) := HS.out.later ba
  have c0 := HSa.out.at 0
  have c1 := HSa.out.at 1
  have cl := HSa.out.lt
  have bra := HX.out.later ba
  clear R1 RI
  have br := bra
  have lt1 := br.lt
  obtain ⟨r0, r1, r2, r3⟩ := br.at4
  dsimp only [nul] at r0 r1 r2 r3
  simp only [Nat.zero_add] at r1 r2 r3
  have f0 := br.free 0
  have f1 := br.free 1
  have f2 := br.free 2
  have f3 := br.free 3
  go_wp2
  refine bodyPost_ret_by (v := .tuple #[va 0 0 0 ⟨#[]⟩, .int .i64 1]) ?_ rfl ⟨rfl, res_kept Ba (by omega) _ _ _ _⟩
  simp [results, Tryz.results28, go_sem, r0, r1, r2, r3]

set_option maxRecDepth 20000 in
set_option maxHeartbeats 4000000 in
theorem ev_bad3 (lo ta na ro : Option Addr) (lc tc nc rc n q m : Nat) (w : World) (h : ¬ q = m)
    (RI : Tells 10 #[.slice lo n lc] w (.bool true)) :
    Calls Tryz.prog 28 #[.slice lo n lc, scv ta na m q tc nc, .slice ro m rc] w fun e w' => e = .returned (rs (nul, 1)) ∧ Below w.heap.size w w' := by
  have h1 := Cbox.new w #[.slice ta m tc, .slice na q nc] 56
  have h2 := Box.new (w.alloc (.cells #[.slice ta m tc, .slice na q nc] 56)) 0 0 0 []
  have B00 : Below w.heap.size w ((w.alloc (.cells #[.slice ta m tc, .slice na q nc] 56)).alloc (.cells #[.int .i64 0, .int .i64 0, .int .i64 0, .string ⟨#[]⟩] 30)) := ((Below.refl _ w).alloc (Nat.le_refl _) _).alloc (by simp) _
  simp only [World.size_alloc] at h2
  have h1' := h1.later ((Below.refl _ _).alloc (Nat.le_refl _) (.cells #[.int .i64 0, .int .i64 0, .int .i64 0, .string ⟨#[]⟩] 30))
  generalize hw0 : ((w.alloc (.cells #[.slice ta m tc, .slice na q nc] 56)).alloc (.cells #[.int .i64 0, .int .i64 0, .int .i64 0, .string ⟨#[]⟩] 30)) = w0 at h1' h2 B00
  clear h1
  have HX : Hid (Box w0 (w.heap.size + 1) nul) := h2
  have HS : Hid (Cbox w0 w.heap.size #[.slice ta m tc, .slice na q nc] 56) := h1'
  clear h1' h2
  have h' : ¬ (q : Int) = (m : Int) := by omega
  clear h
  go_enter Tryz.func28, Tryz.ntmps28
  go_upto_region 1 with fail
  try rw [hw0]
  clear hw0
  have R1 := RI w0 B00
  go_wp2_with fail
  refine R1.mono ?_
  rintro e wa ⟨rfl, ba⟩
  have Ba := below_trans B00 ba
  have HSa : Hid (Cbox wa w.heap.size #[.slice ta m tc, .slice na q nc] 56) := HS.out.later ba
  have c0 := HSa.out.at 0
  have c1 := HSa.out.at 1
  have cl := HSa.out.lt
  have bra := HX.out.later ba
  clear R1 RI
  have br := bra
  have lt1 := br.lt
  obtain ⟨r0, r1, r2, r3⟩ := br.at4
  dsimp only [nul] at r0 r1 r2 r3
  simp only [Nat.zero_add] at r1 r2 r3
  have f0 := br.free 0
  have f1 := br.free 1
  have f2 := br.free 2
  have f3 := br.free 3
  go_wp2
  refine bodyPost_ret_by (v := .tuple #[va 0 0 0 ⟨#[]⟩, .int .i64 1]) ?_ rfl ⟨rfl, res_kept Ba (by omega) _ _ _ _⟩
  simp [results, Tryz.results28, go_sem, r0, r1, r2, r3]

set_option maxRecDepth 20000 in
set_option maxHeartbeats 4000000 in
theorem ev_bad4 (lo ta na ro : Option Addr) (lc tc nc rc n m : Nat) (w : World) (AR : Tells 76 #[.slice ro m rc] w (.bool false))
    (RI : Tells 10 #[.slice lo n lc] w (.bool true)) :
    Calls Tryz.prog 28 #[.slice lo n lc, scv ta na m m tc nc, .slice ro m rc] w fun e w' => e = .returned (rs (nul, 1)) ∧ Below w.heap.size w w' := by
  have h1 := Cbox.new w #[.slice ta m tc, .slice na m nc] 56
  have h2 := Box.new (w.alloc (.cells #[.slice ta m tc, .slice na m nc] 56)) 0 0 0 []
  have B00 : Below w.heap.size w ((w.alloc (.cells #[.slice ta m tc, .slice na m nc] 56)).alloc (.cells #[.int .i64 0, .int .i64 0, .int .i64 0, .string ⟨#[]⟩] 30)) := ((Below.refl _ w).alloc (Nat.le_refl _) _).alloc (by simp) _
  simp only [World.size_alloc] at h2
  have h1' := h1.later ((Below.refl _ _).alloc (Nat.le_refl _) (.cells #[.int .i64 0, .int .i64 0, .int .i64 0, .string ⟨#[]⟩] 30))
  generalize hw0 : ((w.alloc (.cells #[.slice ta m tc, .slice na m nc] 56)).alloc (.cells #[.int .i64 0, .int .i64 0, .int .i64 0, .string ⟨#[]⟩] 30)) = w0 at h1' h2 B00
  clear h1
  have HX : Hid (Box w0 (w.heap.size + 1) nul) := h2
  have HS : Hid (Cbox w0 w.heap.size #[.slice ta m tc, .slice na m nc] 56) := h1'
  clear h1' h2
  go_enter Tryz.func28, Tryz.ntmps28
  go_upto_region 1 with fail
  try rw [hw0]
  clear hw0
  have R1 := RI w0 B00
  go_wp2_with fail
  refine R1.mono ?_
  rintro e wa ⟨rfl, ba⟩
  have Ba := below_trans B00 ba
  have HSa : Hid (Cbox wa w.heap.size #[.slice ta m tc, .slice na m nc] 56) := HS.out.later ba
  have c0 := HSa.out.at 0
  have c1 := HSa.out.at 1
  have cl := HSa.out.lt
  have bra := HX.out.later ba
  clear R1 RI
  have A2 := AR wa Ba
  go_wp2_with fail
  refine A2.mono ?_
  rintro e wb ⟨rfl, bb⟩
  have Bb := below_trans Ba bb
  have brb := bra.later bb
  clear c0 c1 cl A2 AR
  have br := brb
  have lt1 := br.lt
  obtain ⟨r0, r1, r2, r3⟩ := br.at4
  dsimp only [nul] at r0 r1 r2 r3
  simp only [Nat.zero_add] at r1 r2 r3
  have f0 := br.free 0
  have f1 := br.free 1
  have f2 := br.free 2
  have f3 := br.free 3
  go_wp2
  refine bodyPost_ret_by (v := .tuple #[va 0 0 0 ⟨#[]⟩, .int .i64 1]) ?_ rfl ⟨rfl, res_kept Bb (by omega) _ _ _ _⟩
  simp [results, Tryz.results28, go_sem, r0, r1, r2, r3]

theorem eval_any (lo ta na ro : Option Addr) (lc tc nc rc : Nat) (l : List Nd) (ts ns : List (List UInt8)) (row : List Va) (w : World) (hv : Nw w lo l) (hln : l.length ≤ 140737488351232) (hs : shN l) (hT : Tabs w) (hPw : Pw w) (ht : Sl w ta ts) (hn : Sl w na ns) (hr : Vs w ro row)
    (hl : row.length ≤ 140737488351232) (hi6 : ∀ x ∈ l, vin x.v) (hir : ∀ v ∈ row, vin v) :
    Calls Tryz.prog 28 #[.slice lo l.length lc, scv ta na ts.length ns.length tc nc, .slice ro row.length rc] w fun e w' => e = .returned (rs (evR l ts ns row)) ∧ Below w.heap.size w w' := by
  have RI : ∀ W, Below w.heap.size w W → Calls Tryz.prog 10 #[.slice lo l.length lc] W fun e w' => e = .returned (.bool (decide (0 < depN mayN l))) ∧ Below W.heap.size W w' := fun W h => right_of lo lc l W (hv.later h) hln hs (hT.later h)
  unfold evR
  by_cases hd : 0 < depN mayN l
  case neg =>
    rw [if_neg (fun h => hd h.1)]
    rw [decide_eq_false hd] at RI
    exact ev_bad1 lo ta na ro lc tc nc rc l.length ts.length ns.length row.length w RI
  by_cases het : ts.length = row.length
  case neg =>
    rw [if_neg (fun h => het h.2.1)]
    rw [decide_eq_true hd] at RI
    exact ev_bad2 lo ta na ro lc tc nc rc l.length ts.length ns.length row.length w het RI
  by_cases hen : ns.length = row.length
  case neg =>
    rw [if_neg (fun h => hen h.2.2.1), het]
    rw [decide_eq_true hd] at RI
    exact ev_bad3 lo ta na ro lc tc nc rc l.length ns.length row.length w hen RI
  by_cases har : row.all vr = true
  case neg =>
    rw [if_neg (fun h => har h.2.2.2), het, hen]
    rw [decide_eq_true hd] at RI
    have AR : Tells 76 #[.slice ro row.length rc] w (.bool false) := fun W h => by
      have := qall_any ro rc row W (hT.later h) (hr.later h) (by omega)
      rw [show row.all vr = false by simpa using har] at this
      exact this
    exact ev_bad4 lo ta na ro lc tc nc rc l.length row.length w AR RI
  rw [if_pos ⟨hd, het, hen, har⟩]
  exact eval_good lo ta na ro lc tc nc rc l ts ns row w hv hs hT hPw ht hn hr hd het hen har hl hi6 hir
end Go.Proofs.YtgapmofhnjfdiaaGreatDoor

namespace Go.Proofs.YtgapmofhnjfdiaaGreatDoor
open Go.RowKit Go.Shelf

theorem cellsV_eq (l : List Va) : cellsV l = vcells l := rfl
set_option maxHeartbeats 1000000 in
theorem vown_own (ao : Option Addr) (cap : Nat) (l : List Va) (w : World) (hv : Vs w ao l) (h0 : ao = none → l = []) (hl : l.length * 40 ≤ 140737488351232) :
    Calls Tryz.prog 21 #[.slice ao l.length cap] w fun e w' => (∃ v, e = .returned v ∧ Vk w' w.heap.size v l) ∧ Below w.heap.size w w' := by
  obtain ⟨i0, hi, hz0, hz1, hz2⟩ := info_parts Tryz.info30
  have A1 : Below w.heap.size w (w.alloc (.cells #[] 30)) := (Below.refl _ _).alloc (Nat.le_refl _) _
  have hs := src_of_vs (cap := cap) (hv.later A1) h0
  have hmade : (w.alloc (.cells #[] 30)).ownsRow w.heap.size 30 4 (.slice (some ⟨w.heap.size, 0, none⟩) 0 0) 0 [] := World.ownsRow_made w #[] 0 (Nat.le_refl _) (by decide) (by simp)
  go_enter Tryz.func21, Tryz.ntmps21
  go_wp2_with (at_builtin; refine wpList_append_from rfl (.tmp 3) (.tmp 4) 45 45 rfl w.heap.size 30 i0 (.agg #[.int .i64 0, .int .i64 0, .int .i64 0, .string ⟨#[]⟩]) 4 40 Tryz.underlying45 hi hz0 hz1 hz2 rfl _ 0 [] rfl hmade _ l.length (cellsV l) rfl hs (by unfold maxLen; omega) (by omega) (by simp) ?_)
  intro v2 w2 ho2 hg2
  have B2 : Below w.heap.size w w2 := A1.grown hg2 (by simp) (fun k hk => by cases hk; exact Nat.le_refl _)
  rw [cellsV_eq] at ho2
  obtain ⟨ao', cap', hve, _⟩ := Vk.shape ho2
  subst hve
  clear hg2 hmade hs A1 hv
  go_wp2
  go_ret
  exact ⟨⟨_, rfl, ho2⟩, B2⟩
/-- A stack's block is not frozen. -/
theorem Vk.free {w : World} {base n cap g : Nat} {st : List Va} (h : Vk w base (.slice (some ⟨g, 0, none⟩) n cap) st) (j : Nat) : w.frozen? ⟨g, j, none⟩ = false := by
  obtain ⟨h1, h2⟩ := h
  rcases h2 with ⟨h, _⟩ | ⟨g', cap', cur, hv, hb, hg, _⟩
  · cases h
  · cases hv
    simp [World.frozen?, hg]
end Go.Proofs.YtgapmofhnjfdiaaGreatDoor

namespace Go.Proofs.YtgapmofhnjfdiaaGreatDoor
open Go.RowKit Go.Shelf
attribute [local go_sem] cell?_more frozen?_more setCell_more more_lt more_more more_drew more_drewN setCell_drewN alloc_drewN

theorem vk_vs {w : World} {base : Nat} {v : Value} {st : List Va} (h : Vk w base v st) : ∃ ao cap, v = .slice ao st.length cap ∧ Vs w ao st := vs_of_own h
/-- The columns of nodes bear the names of all of them. -/
theorem colsL_has (l : List Nd) : ∀ (out : List Nd), (∀ c ∈ out, c ∈ colsL l out) ∧ ∀ x ∈ l, x.o = 2 → ∃ c ∈ colsL l out, c.n = x.n := by
  induction l with
  | nil => intro out; exact ⟨fun c h => h, fun x h => by simp at h⟩
  | cons y l ih =>
    intro out
    have h := ih (if y.o = 2 ∧ memN out y = false then out ++ [⟨2, y.t, y.n, vz0, 0⟩] else out)
    refine ⟨fun c hc => h.1 c ?_, fun x hx ho => ?_⟩
    · split
      · simp [hc]
      · exact hc
    · rcases List.mem_cons.1 hx with rfl | hx
      · by_cases hm : memN out x = false
        · exact ⟨⟨2, x.t, x.n, vz0, 0⟩, h.1 _ (by rw [if_pos ⟨ho, hm⟩]; simp), rfl⟩
        · have hm' : memN out x = true := by simpa using hm
          unfold memN at hm'
          obtain ⟨c, hc, hs⟩ := List.any_eq_true.1 hm'
          have := sameN_eq.1 hs
          exact ⟨c, h.1 c (by rw [if_neg (fun h => hm h.2)]; exact hc), by rw [← this]⟩
      · exact h.2 x hx ho
/-- A row of which some values that no node names are another's. -/
def chgd (cols : List Nd) (ns : List (List UInt8)) (row other cur : List Va) : Prop :=
  cur.length = row.length ∧ ∀ j (h : j < row.length) (h' : j < cur.length) (hn : j < ns.length), cur[j] = row[j] ∨ ((∃ h2 : j < other.length, cur[j] = other[j]) ∧ ∀ c ∈ cols, c.n ≠ ns[j])
theorem chgd_ev {l : List Nd} {ts ns : List (List UInt8)} {row other cur : List Va} (h : chgd (if 0 < depN mayN l then colsL l [] else []) ns row other cur) (hn : ns.length = row.length) (ha : row.all vr = true) (hb : other.all vr = true) :
    evR l ts ns row = evR l ts ns cur ∧ cur.all vr = true := by
  have hc : cur.all vr = true := by
    rw [List.all_eq_true]
    intro v hv
    obtain ⟨j, hj, rfl⟩ := List.mem_iff_getElem.1 hv
    rcases h.2 j (by have := h.1; omega) hj (by have := h.1; omega) with e | ⟨⟨h2, e⟩, _⟩
    · rw [e]; exact List.all_eq_true.1 ha _ (List.getElem_mem _)
    · rw [e]; exact List.all_eq_true.1 hb _ (List.getElem_mem _)
  refine ⟨evR_named l ts ns row cur h.1.symm hn ha hc (fun hd x hx ho i hi hi' he => ?_), hc⟩
  rcases h.2 i hi (by have := h.1; omega) hi' with e | ⟨_, e⟩
  · exact e.symm
  · rw [if_pos hd] at e
    obtain ⟨c, hc, hcn⟩ := (colsL_has l []).2 x hx ho
    exact absurd (hcn.trans he.symm) (e c hc)
theorem chgd_vin {cols : List Nd} {ns : List (List UInt8)} {row other cur : List Va} (h : chgd cols ns row other cur) (hn : ns.length = row.length) (ha : ∀ v ∈ row, vin v) (hb : ∀ v ∈ other, vin v) : ∀ v ∈ cur, vin v := by
  intro v hv
  obtain ⟨j, hj, rfl⟩ := List.mem_iff_getElem.1 hv
  rcases h.2 j (by have := h.1; omega) hj (by have := h.1; omega) with e | ⟨⟨h2, e⟩, _⟩
  · rw [e]; exact ha _ (List.getElem_mem _)
  · rw [e]; exact hb _ (List.getElem_mem _)
theorem chgd_set {cols : List Nd} {ns : List (List UInt8)} {row other cur : List Va} (h : chgd cols ns row other cur) (i : Nat) (h2 : i < other.length) (hn : i < ns.length) (hnm : ∀ c ∈ cols, c.n ≠ ns[i]) : chgd cols ns row other (cur.set i other[i]) := by
  refine ⟨by rw [List.length_set]; exact h.1, fun j hj h' hn' => ?_⟩
  by_cases e : i = j
  · subst e
    exact .inr ⟨⟨h2, by rw [List.getElem_set_self]⟩, hnm⟩
  · rw [List.getElem_set_ne e]
    exact h.2 j hj (by rw [List.length_set] at h'; exact h') hn'

theorem at4_set {w : World} {g o : Nat} {u v : Va} (h : At4 w g o u) : At4 ((((w.setCell ⟨g, o, none⟩ (.int .i64 v.k)).setCell ⟨g, o + 1, none⟩ (.int .i64 v.n)).setCell ⟨g, o + 2, none⟩ (.int .i64 v.m)).setCell ⟨g, o + 3, none⟩ (.string ⟨v.b.toArray⟩)) g o v := by
  obtain ⟨h0, h1, h2, h3⟩ := h
  refine ⟨?_, ?_, ?_, ?_⟩
  all_goals simp (maxDischargeDepth := 12) [go_sem, h0, h1, h2, h3]
theorem at4_off {w : World} {g o o' : Nat} {u : Va} (a b c d : Value) (h : At4 w g o u) (hne : o + 3 < o' ∨ o' + 3 < o) : At4 ((((w.setCell ⟨g, o', none⟩ a).setCell ⟨g, o' + 1, none⟩ b).setCell ⟨g, o' + 2, none⟩ c).setCell ⟨g, o' + 3, none⟩ d) g o u := by
  have e : ∀ (W : World) (x y : Nat) (z : Value), x ≠ y → (W.setCell ⟨g, y, none⟩ z).cell? ⟨g, x, none⟩ = W.cell? ⟨g, x, none⟩ := fun W x y z hxy => World.cell?_setCell_other W _ _ _ (by intro h; simp only [Addr.mk.injEq] at h; omega)
  obtain ⟨h0, h1, h2, h3⟩ := h
  refine ⟨?_, ?_, ?_, ?_⟩
  · rw [e _ _ _ _ (by omega), e _ _ _ _ (by omega), e _ _ _ _ (by omega), e _ _ _ _ (by omega)]; exact h0
  · rw [e _ _ _ _ (by omega), e _ _ _ _ (by omega), e _ _ _ _ (by omega), e _ _ _ _ (by omega)]; exact h1
  · rw [e _ _ _ _ (by omega), e _ _ _ _ (by omega), e _ _ _ _ (by omega), e _ _ _ _ (by omega)]; exact h2
  · rw [e _ _ _ _ (by omega), e _ _ _ _ (by omega), e _ _ _ _ (by omega), e _ _ _ _ (by omega)]; exact h3
/-- Is the name among the first columns' names? -/
def nmd (C : List Nd) (s : List UInt8) (j : Nat) (nm : Bool) : Prop := nm = true ↔ ∃ i, ∃ h : i < C.length, i < j ∧ C[i].n = s
theorem res_kept4 {w w' : World} {p q o : Nat} (h : Below p w w') (hp : p ≤ q) (a b c : Int) (s : ByteArray) : Below p w ((((w'.setCell ⟨q, o, none⟩ (.int .i64 a)).setCell ⟨q, o + 1, none⟩ (.int .i64 b)).setCell ⟨q, o + 2, none⟩ (.int .i64 c)).setCell ⟨q, o + 3, none⟩ (.string s)) :=
  (h.setCell (p := ⟨q, o, none⟩) hp _ |>.setCell (p := ⟨q, o + 1, none⟩) hp _ |>.setCell (p := ⟨q, o + 2, none⟩) hp _ |>.setCell (p := ⟨q, o + 3, none⟩) hp _)
def nmO15x0 : Oper := { dst := some 96, op := Op.move (Operand.tmp 0), type := 22, pos := "law.go:82", after := #[], guard := none }
def nmO15x1 : Oper := { dst := some 97, op := Op.call { callee := Callee.value (Operand.func 8), args := #[Operand.tmp 96], argTypes := #[22] }, type := 23, pos := "law.go:82", after := #[{ on := 0, ground := Ground.data }], guard := none }
def nmO15x2 : Oper := { dst := some 98, op := Op.load 53 (Operand.tmp 5), type := 53, pos := "law.go:82", after := #[], guard := none }
def nmO15x3 : Oper := { dst := some 99, op := Op.call { callee := Callee.value (Operand.func 26), args := #[Operand.tmp 98], argTypes := #[53] }, type := 56, pos := "law.go:82", after := #[{ on := 2, ground := Ground.data }, { on := 1, ground := Ground.chain }], guard := none }
def nmO15x4 : Oper := { dst := some 100, op := Op.move (Operand.tmp 2), type := 45, pos := "law.go:82", after := #[], guard := none }
def nmO15x5 : Oper := { dst := some 101, op := Op.call { callee := Callee.value (Operand.func 21), args := #[Operand.tmp 100], argTypes := #[45] }, type := 45, pos := "law.go:82", after := #[{ on := 4, ground := Ground.data }, { on := 3, ground := Ground.chain }], guard := none }
def nmO15x6 : Oper := { dst := some 102, op := Op.call { callee := Callee.value (Operand.func 28), args := #[Operand.tmp 97, Operand.tmp 99, Operand.tmp 101], argTypes := #[23, 56, 45] }, type := 36, pos := "law.go:82", after := #[{ on := 1, ground := Ground.data }, { on := 3, ground := Ground.data }, { on := 5, ground := Ground.data }, { on := 5, ground := Ground.chain }], guard := none }
def nmO15x7 : Oper := { dst := some 95, op := Op.move (Operand.tmp 102), type := 36, pos := "law.go:82", after := #[{ on := 6, ground := Ground.data }], guard := none }
def nmO15x8 : Oper := { dst := some 103, op := Op.extract (Operand.tmp 95) 0, type := 30, pos := "law.go:82", after := #[{ on := 7, ground := Ground.data }], guard := none }
def nmO15x9 : Oper := { dst := some 104, op := Op.extract (Operand.tmp 95) 1, type := 35, pos := "law.go:82", after := #[{ on := 7, ground := Ground.data }, { on := 11, ground := Ground.gcOnly Departure.lateStores }], guard := none }
def nmO15x10 : Oper := { dst := some 14, op := Op.alloc 30, type := 0, pos := "law.go:82", after := #[], guard := none }
def nmO15x11 : Oper := { dst := none, op := Op.store 30 (Operand.tmp 14) (Operand.tmp 103), type := 0, pos := "law.go:82", after := #[{ on := 10, ground := Ground.data }, { on := 8, ground := Ground.data }, { on := 6, ground := Ground.chain }, { on := 0, ground := Ground.phase }, { on := 1, ground := Ground.phase }, { on := 2, ground := Ground.phase }, { on := 3, ground := Ground.phase }, { on := 4, ground := Ground.phase }, { on := 5, ground := Ground.phase }, { on := 6, ground := Ground.phase }, { on := 7, ground := Ground.phase }, { on := 8, ground := Ground.phase }, { on := 9, ground := Ground.textOnly Departure.lateStores }, { on := 10, ground := Ground.phase }], guard := none }
def nmO15x12 : Oper := { dst := some 15, op := Op.assign (Operand.tmp 104), type := 35, pos := "law.go:82", after := #[{ on := 9, ground := Ground.data }, { on := 11, ground := Ground.chain }, { on := 0, ground := Ground.phase }, { on := 1, ground := Ground.phase }, { on := 2, ground := Ground.phase }, { on := 3, ground := Ground.phase }, { on := 4, ground := Ground.phase }, { on := 5, ground := Ground.phase }, { on := 6, ground := Ground.phase }, { on := 7, ground := Ground.phase }, { on := 8, ground := Ground.phase }, { on := 9, ground := Ground.phase }, { on := 10, ground := Ground.phase }, { on := 11, ground := Ground.phase }], guard := none }

def nmO16x0 : Oper := { dst := some 106, op := Op.move (Operand.tmp 0), type := 22, pos := "law.go:83", after := #[], guard := none }
def nmO16x1 : Oper := { dst := some 107, op := Op.call { callee := Callee.value (Operand.func 8), args := #[Operand.tmp 106], argTypes := #[22] }, type := 23, pos := "law.go:83", after := #[{ on := 0, ground := Ground.data }], guard := none }
def nmO16x2 : Oper := { dst := some 108, op := Op.load 53 (Operand.tmp 5), type := 53, pos := "law.go:83", after := #[], guard := none }
def nmO16x3 : Oper := { dst := some 109, op := Op.call { callee := Callee.value (Operand.func 26), args := #[Operand.tmp 108], argTypes := #[53] }, type := 56, pos := "law.go:83", after := #[{ on := 2, ground := Ground.data }, { on := 1, ground := Ground.chain }], guard := none }
def nmO16x4 : Oper := { dst := some 110, op := Op.move (Operand.tmp 10), type := 45, pos := "law.go:83", after := #[], guard := none }
def nmO16x5 : Oper := { dst := some 111, op := Op.call { callee := Callee.value (Operand.func 28), args := #[Operand.tmp 107, Operand.tmp 109, Operand.tmp 110], argTypes := #[23, 56, 45] }, type := 36, pos := "law.go:83", after := #[{ on := 1, ground := Ground.data }, { on := 3, ground := Ground.data }, { on := 4, ground := Ground.data }, { on := 3, ground := Ground.chain }], guard := none }
def nmO16x6 : Oper := { dst := some 105, op := Op.move (Operand.tmp 111), type := 36, pos := "law.go:83", after := #[{ on := 5, ground := Ground.data }], guard := none }
def nmO16x7 : Oper := { dst := some 112, op := Op.extract (Operand.tmp 105) 0, type := 30, pos := "law.go:83", after := #[{ on := 6, ground := Ground.data }], guard := none }
def nmO16x8 : Oper := { dst := some 113, op := Op.extract (Operand.tmp 105) 1, type := 35, pos := "law.go:83", after := #[{ on := 6, ground := Ground.data }, { on := 10, ground := Ground.gcOnly Departure.lateStores }], guard := none }
def nmO16x9 : Oper := { dst := some 16, op := Op.alloc 30, type := 0, pos := "law.go:83", after := #[], guard := none }
def nmO16x10 : Oper := { dst := none, op := Op.store 30 (Operand.tmp 16) (Operand.tmp 112), type := 0, pos := "law.go:83", after := #[{ on := 9, ground := Ground.data }, { on := 7, ground := Ground.data }, { on := 5, ground := Ground.chain }, { on := 0, ground := Ground.phase }, { on := 1, ground := Ground.phase }, { on := 2, ground := Ground.phase }, { on := 3, ground := Ground.phase }, { on := 4, ground := Ground.phase }, { on := 5, ground := Ground.phase }, { on := 6, ground := Ground.phase }, { on := 7, ground := Ground.phase }, { on := 8, ground := Ground.textOnly Departure.lateStores }, { on := 9, ground := Ground.phase }], guard := none }
def nmO16x11 : Oper := { dst := some 17, op := Op.assign (Operand.tmp 113), type := 35, pos := "law.go:83", after := #[{ on := 8, ground := Ground.data }, { on := 10, ground := Ground.chain }, { on := 0, ground := Ground.phase }, { on := 1, ground := Ground.phase }, { on := 2, ground := Ground.phase }, { on := 3, ground := Ground.phase }, { on := 4, ground := Ground.phase }, { on := 5, ground := Ground.phase }, { on := 6, ground := Ground.phase }, { on := 7, ground := Ground.phase }, { on := 8, ground := Ground.phase }, { on := 9, ground := Ground.phase }, { on := 10, ground := Ground.phase }], guard := none }

end Go.Proofs.YtgapmofhnjfdiaaGreatDoor

namespace Go.Proofs.YtgapmofhnjfdiaaGreatDoor
open Go.RowKit Go.Shelf
attribute [local go_sem] cell?_more frozen?_more setCell_more more_lt more_more more_drew more_drewN setCell_drewN alloc_drewN

set_option maxRecDepth 20000 in
set_option maxHeartbeats 4000000 in
theorem nend1 (lo ta na ro oo : Option Addr) (lc tc nc rc oc n p q r o : Nat) (w : World) (KN : Tells 20 #[] w (.bool true)) (h : 600 < n) :
    Calls Tryz.prog 7 #[.slice lo n lc, scv ta na p q tc nc, .slice ro r rc, .slice oo o oc] w fun e w' => e = .returned (.bool true) ∧ Below w.heap.size w w' := by
  have h1 := Cbox.new w #[.slice ta p tc, .slice na q nc] 53
  have B0 : Below w.heap.size w (w.alloc (.cells #[.slice ta p tc, .slice na q nc] 53)) := (Below.refl _ w).alloc (Nat.le_refl _) _
  generalize hw0 : (w.alloc (.cells #[.slice ta p tc, .slice na q nc] 53)) = w0 at h1 B0
  have z0 := h1.at 0
  have z1 := h1.at 1
  have zl := h1.lt
  clear h1
  have h' : (600 : Int) < (n : Int) := by omega
  go_enter Tryz.func7, Tryz.ntmps7
  go_upto_region 1 with fail
  try rw [hw0]
  clear hw0
  have K9 := KN w0 B0
  clear KN
  go_wp2_with fail
  refine K9.mono ?_
  rintro e wk ⟨rfl, bk⟩
  go_wp2
  go_ret
  exact ⟨rfl, below_trans B0 bk⟩

set_option maxRecDepth 20000 in
set_option maxHeartbeats 4000000 in
theorem nend2 (lo ta na ro oo : Option Addr) (lc tc nc rc oc n p q r o : Nat) (w : World) (KN : Tells 20 #[] w (.bool true)) (h : n ≤ 600) (h2 : ¬ r = q) :
    Calls Tryz.prog 7 #[.slice lo n lc, scv ta na p q tc nc, .slice ro r rc, .slice oo o oc] w fun e w' => e = .returned (.bool true) ∧ Below w.heap.size w w' := by
  have h1 := Cbox.new w #[.slice ta p tc, .slice na q nc] 53
  have B0 : Below w.heap.size w (w.alloc (.cells #[.slice ta p tc, .slice na q nc] 53)) := (Below.refl _ w).alloc (Nat.le_refl _) _
  generalize hw0 : (w.alloc (.cells #[.slice ta p tc, .slice na q nc] 53)) = w0 at h1 B0
  have z0 := h1.at 0
  have z1 := h1.at 1
  have zl := h1.lt
  clear h1
  have h' : ¬ (600 : Int) < (n : Int) := by omega
  have h2' : ¬ (r : Int) = (q : Int) := by omega
  clear h2
  go_enter Tryz.func7, Tryz.ntmps7
  go_upto_region 1 with fail
  try rw [hw0]
  clear hw0
  have K9 := KN w0 B0
  clear KN
  go_wp2_with fail
  refine K9.mono ?_
  rintro e wk ⟨rfl, bk⟩
  go_wp2
  go_ret
  exact ⟨rfl, below_trans B0 bk⟩

set_option maxRecDepth 20000 in
set_option maxHeartbeats 4000000 in
theorem nend3 (lo ta na ro oo : Option Addr) (lc tc nc rc oc n p q o : Nat) (w : World) (KN : Tells 20 #[] w (.bool true)) (h : n ≤ 600) (h2 : ¬ p = q) :
    Calls Tryz.prog 7 #[.slice lo n lc, scv ta na p q tc nc, .slice ro q rc, .slice oo o oc] w fun e w' => e = .returned (.bool true) ∧ Below w.heap.size w w' := by
  have h1 := Cbox.new w #[.slice ta p tc, .slice na q nc] 53
  have B0 : Below w.heap.size w (w.alloc (.cells #[.slice ta p tc, .slice na q nc] 53)) := (Below.refl _ w).alloc (Nat.le_refl _) _
  generalize hw0 : (w.alloc (.cells #[.slice ta p tc, .slice na q nc] 53)) = w0 at h1 B0
  have z0 := h1.at 0
  have z1 := h1.at 1
  have zl := h1.lt
  clear h1
  have h' : ¬ (600 : Int) < (n : Int) := by omega
  have h2' : ¬ (p : Int) = (q : Int) := by omega
  clear h2
  go_enter Tryz.func7, Tryz.ntmps7
  go_upto_region 1 with fail
  try rw [hw0]
  clear hw0
  have K9 := KN w0 B0
  clear KN
  go_wp2_with fail
  refine K9.mono ?_
  rintro e wk ⟨rfl, bk⟩
  go_wp2
  go_ret
  exact ⟨rfl, below_trans B0 bk⟩

set_option maxRecDepth 20000 in
set_option maxHeartbeats 4000000 in
theorem nend4 (lo ta na ro oo : Option Addr) (lc tc nc rc oc n q o : Nat) (w : World) (KN : Tells 20 #[] w (.bool true)) (h : n ≤ 600) (RW1 : Tells 33 #[.slice ro q rc] w (.bool false)) :
    Calls Tryz.prog 7 #[.slice lo n lc, scv ta na q q tc nc, .slice ro q rc, .slice oo o oc] w fun e w' => e = .returned (.bool true) ∧ Below w.heap.size w w' := by
  have h1 := Cbox.new w #[.slice ta q tc, .slice na q nc] 53
  have B0 : Below w.heap.size w (w.alloc (.cells #[.slice ta q tc, .slice na q nc] 53)) := (Below.refl _ w).alloc (Nat.le_refl _) _
  generalize hw0 : (w.alloc (.cells #[.slice ta q tc, .slice na q nc] 53)) = w0 at h1 B0
  have z0 := h1.at 0
  have z1 := h1.at 1
  have zl := h1.lt
  clear h1
  have h' : ¬ (600 : Int) < (n : Int) := by omega
  go_enter Tryz.func7, Tryz.ntmps7
  go_upto_region 1 with fail
  try rw [hw0]
  clear hw0
  have R1 := RW1 w0 B0
  go_wp2_with fail
  refine R1.mono ?_
  rintro e w1 ⟨rfl, b1⟩
  have B1 := below_trans B0 b1
  clear R1 RW1 z0 z1 zl
  have K9 := KN w1 B1
  clear KN
  go_wp2_with fail
  refine K9.mono ?_
  rintro e wk ⟨rfl, bk⟩
  go_wp2
  go_ret
  exact ⟨rfl, below_trans B1 bk⟩

set_option maxRecDepth 20000 in
set_option maxHeartbeats 4000000 in
theorem nend5 (lo ta na ro oo : Option Addr) (lc tc nc rc oc n q o : Nat) (w : World) (KN : Tells 20 #[] w (.bool true)) (h : n ≤ 600) (RW1 : Tells 33 #[.slice ro q rc] w (.bool true)) (RW2 : Tells 33 #[.slice oo o oc] w (.bool false)) :
    Calls Tryz.prog 7 #[.slice lo n lc, scv ta na q q tc nc, .slice ro q rc, .slice oo o oc] w fun e w' => e = .returned (.bool true) ∧ Below w.heap.size w w' := by
  have h1 := Cbox.new w #[.slice ta q tc, .slice na q nc] 53
  have B0 : Below w.heap.size w (w.alloc (.cells #[.slice ta q tc, .slice na q nc] 53)) := (Below.refl _ w).alloc (Nat.le_refl _) _
  generalize hw0 : (w.alloc (.cells #[.slice ta q tc, .slice na q nc] 53)) = w0 at h1 B0
  have z0 := h1.at 0
  have z1 := h1.at 1
  have zl := h1.lt
  clear h1
  have h' : ¬ (600 : Int) < (n : Int) := by omega
  go_enter Tryz.func7, Tryz.ntmps7
  go_upto_region 1 with fail
  try rw [hw0]
  clear hw0
  have R1 := RW1 w0 B0
  go_wp2_with fail
  refine R1.mono ?_
  rintro e w1 ⟨rfl, b1⟩
  have B1 := below_trans B0 b1
  clear R1 RW1 z0 z1 zl
  have R2 := RW2 w1 B1
  go_wp2_with fail
  refine R2.mono ?_
  rintro e w2 ⟨rfl, b2⟩
  have B2 := below_trans B1 b2
  clear R2 RW2
  have K9 := KN w2 B2
  clear KN
  go_wp2_with fail
  refine K9.mono ?_
  rintro e wk ⟨rfl, bk⟩
  go_wp2
  go_ret
  exact ⟨rfl, below_trans B2 bk⟩

end Go.Proofs.YtgapmofhnjfdiaaGreatDoor
