/-
  What expressions come to, as plain data.
  The contracts of eval.Find and eval.columnValue.
  A scope that comes in.
  The contracts of eval.columnValue, eval.operands, eval.apart and eval.stepped.
  The contract of eval.stepped.
  The contract of eval.stepped, whole.
  A stack of values of one's own.
  The document's Find answers as the program's.
  An append out of a whole slice at a step of a region that draws, and where the new slice lies.
  The document's Eval, where all is right.
-/
import Derived.Test.YtclhmmgdhagloaaGreatDoorMMQCallB
import Derived.Test.YtclhmmgdhagloaaGreatDoorMNQRF0
import Derived.Test.YtclhmmgdhagloaaGreatDoorMEEFit
import Derived.Test.YtclhmmgdhagloaaGreatDoorMFEShF
import Derived.SliceStrings
import Derived.Test.YtclhmmgdhagloaaGreatDoorMLQFun0
import Derived.Deep.AppendLies
import Derived.Test.YtclhmmgdhagloaaGreatDoorMaLJumps
import Derived.Test.YtclhmmgdhagloaaGreatDoorMGXAlB
import Derived.Test.YtclhmmgdhagloaaGreatDoorMBVOrd1
import Derived.Deep.CutRange
import Derived.Deep.CutBlock
namespace Go.Proofs.YtclhmmgdhagloaaGreatDoor

/-- The last column of that name (and table), and how many there are. -/
def findS (t n : List UInt8) : List (List UInt8 × List UInt8) → Nat → Nat → Nat → Nat × Nat
  | [], _, p, c => (p, c)
  | x :: r, i, p, c => if x.2 = n ∧ (t = [] ∨ x.1 = t) then findS t n r (i + 1) i (c + 1) else findS t n r (i + 1) p c
def findR (ts ns : List (List UInt8)) (t n : List UInt8) : Nat × Int :=
  if ts.length = ns.length then (if (findS t n (ts.zip ns) 0 0 0).2 = 1 then ((findS t n (ts.zip ns) 0 0 0).1, 0) else (0, 34)) else (0, 1)
theorem findS_at (t n : List UInt8) : ∀ l i p c, ((findS t n l i p c).1 = p ∧ (findS t n l i p c).2 = c) ∨ (c < (findS t n l i p c).2 ∧ ∃ j, ∃ h : j < l.length, (findS t n l i p c).1 = i + j ∧ (l[j]).2 = n) := by
  intro l
  induction l with
  | nil => intro i p c; exact .inl ⟨rfl, rfl⟩
  | cons x r ih =>
    intro i p c
    unfold findS
    split
    · rename_i hx
      rcases ih (i + 1) i (c + 1) with ⟨h1, h2⟩ | ⟨h1, j, hj, h2, h3⟩
      · exact .inr ⟨by omega, 0, by simp, by omega, hx.1⟩
      · exact .inr ⟨by omega, j + 1, by simp; omega, by omega, by simpa using h3⟩
    · rcases ih (i + 1) p c with h | ⟨h1, j, hj, h2, h3⟩
      · exact .inl h
      · exact .inr ⟨h1, j + 1, by simp; omega, by omega, by simpa using h3⟩
theorem findR_at {ts ns : List (List UInt8)} {t n : List UInt8} (h : (findR ts ns t n).2 = 0) : ∃ hl : (findR ts ns t n).1 < ns.length, ns[(findR ts ns t n).1] = n := by
  unfold findR at h ⊢
  by_cases h1 : ts.length = ns.length
  · simp only [if_pos h1] at h ⊢
    by_cases h2 : (findS t n (ts.zip ns) 0 0 0).2 = 1
    · simp only [if_pos h2] at h ⊢
      rcases findS_at t n (ts.zip ns) 0 0 0 with ⟨_, h3⟩ | ⟨_, j, hj, h3, h4⟩
      · omega
      · have hz : (ts.zip ns).length = ns.length := by rw [List.length_zip]; omega
        have e : (findS t n (ts.zip ns) 0 0 0).1 = j := by omega
        refine ⟨by omega, ?_⟩
        have h5 : ((ts.zip ns)[j]).2 = ns[j]'(by omega) := by rw [List.getElem_zip]
        rw [h5] at h4
        simp only [e]
        exact h4
    · rw [if_neg h2] at h; simp at h
  · rw [if_neg h1] at h; simp at h

/-- What a node comes to, done with these values. -/
def colR (x : Nd) (ts ns : List (List UInt8)) (row : List Va) : Va × Int :=
  if (findR ts ns x.t x.n).2 = 0 then (row.getD (findR ts ns x.t x.n).1 nul, 0) else (nul, (findR ts ns x.t x.n).2)
def stpR (x : Nd) (of : List Va) (ts ns : List (List UInt8)) (row : List Va) : Va × Int :=
  if x.o = 1 then (x.v, 0) else if x.o = 2 then colR x ts ns row else if x.o = 19 then funR x.n of else if of.length = 1 then unR x.o (of.getD 0 nul) else binR x.o (of.getD 0 nul) (of.getD 1 nul)
/-- What nodes come to, with these values ahead. -/
def evL (ts ns : List (List UInt8)) (row : List Va) : List Nd → List Va → Va × Int
  | [], st => (st.headD nul, 0)
  | x :: l, st => if (stpR x (st.drop (st.length - (opsN x).toNat)) ts ns row).2 = 0 then evL ts ns row l (st.take (st.length - (opsN x).toNat) ++ [(stpR x (st.drop (st.length - (opsN x).toNat)) ts ns row).1]) else (nul, (stpR x (st.drop (st.length - (opsN x).toNat)) ts ns row).2)
/-- What Eval answers. -/
def evR (l : List Nd) (ts ns : List (List UInt8)) (row : List Va) : Va × Int :=
  if 0 < depN mayN l ∧ ts.length = row.length ∧ ns.length = row.length ∧ row.all vr = true then evL ts ns row l [] else (nul, 1)

/-- A value that may be, of whole numbers of 64 bits. -/
def gv (v : Va) : Prop := vr v = true ∧ vin v
theorem gv_nul : gv nul := ⟨vr_nul, ⟨by decide, by decide⟩, ⟨by decide, by decide⟩⟩
theorem gv_of {v : Va} (h : vr v = true) (hn : v.k = 1 ∨ v.k = 2 → -9223372036854775808 ≤ v.n ∧ v.n ≤ 9223372036854775807) : gv v := by
  have hok := (vr_iff v).1 h
  unfold vok at hok
  refine ⟨h, ⟨?_, ?_⟩, ⟨?_, ?_⟩⟩
  all_goals rcases hok with h | h | h | h | h | h
  all_goals first | omega | (have := hn (by omega); omega)
theorem nzI (z : Int) : -9223372036854775808 ≤ nz z ∧ nz z ≤ 9223372036854775807 := by
  unfold nz
  split
  · rename_i h; exact (fits_iff z).1 h
  · omega
/-- A number that is answered is of 64 bits. -/
def numI (r : Va × Int) : Prop := r.1.k = 1 ∨ r.1.k = 2 → -9223372036854775808 ≤ r.1.n ∧ r.1.n ≤ 9223372036854775807
theorem numI_nul (e : Int) : numI (nul, e) := fun h => by simp [nul] at h
theorem numI_whole (z e : Int) (h : -9223372036854775808 ≤ z ∧ z ≤ 9223372036854775807) : numI (wholeR z e) := by
  unfold wholeR
  split
  · exact fun _ => h
  · exact numI_nul e
theorem numI_dec (z s : Int) : numI (decR z s) := by
  unfold decR exactR
  split
  · exact fun _ => nzI z
  · exact numI_nul _
theorem numI_pt (x y : Int) (e : Int) : numI (vP x y, e) := fun h => by simp [vP] at h
theorem numI_bool (b : Bool) (e : Int) : numI (vB b, e) := fun h => by simp [vB] at h
theorem numI_of (t e : Int) : numI (vO t, e) := fun h => by
  unfold vO at h
  split at h
  · simp at h
  · simp [nul] at h
theorem numI_cmp (op c : Int) : numI (cmpR op c) := by
  unfold cmpR
  repeat' split
  all_goals first | exact numI_bool _ _ | exact numI_nul _
theorem tdivI (a b : Int) (h0 : -9223372036854775808 ≤ a) (h1 : a ≤ 9223372036854775807) (hb : b ≠ 0) (hb1 : b ≠ -1) : -9223372036854775808 ≤ a.tdiv b ∧ a.tdiv b ≤ 9223372036854775807 := by
  have h : (a.tdiv b).natAbs = a.natAbs / b.natAbs := Int.natAbs_tdiv a b
  have h2 : a.natAbs / b.natAbs ≤ a.natAbs := Nat.div_le_self _ _
  by_cases hm : a = -9223372036854775808
  · subst hm
    by_cases hb2 : b = 1
    · subst hb2; simp
    · have h3 : 2 ≤ b.natAbs := by omega
      have h4 : (-9223372036854775808 : Int).natAbs / b.natAbs ≤ (-9223372036854775808 : Int).natAbs / 2 := Nat.div_le_div_left h3 (by decide)
      have h5 : (-9223372036854775808 : Int).natAbs / 2 = 4611686018427387904 := by decide
      omega
  · omega
theorem numI_ints (op a b : Int) (ha : -9223372036854775808 ≤ a ∧ a ≤ 9223372036854775807) : numI (intsR op a b) := by
  unfold intsR
  split
  · exact numI_whole _ _ (nzI _)
  split
  · exact numI_whole _ _ (nzI _)
  split
  · exact numI_whole _ _ (nzI _)
  split
  · unfold quoR
    split
    · exact numI_whole _ _ (by simp)
    split
    · exact numI_whole _ _ (nzI _)
    · exact numI_whole _ _ (tdivI a b ha.1 ha.2 (by assumption) (by assumption))
  split
  · unfold remR
    split
    · exact numI_whole _ _ (by simp)
    · refine numI_whole _ _ ?_
      have h := Int.natAbs_tmod a b
      have h2 : a.natAbs % b.natAbs ≤ a.natAbs := Nat.mod_le _ _
      have h3 : a.tmod b = a - b * a.tdiv b := by have := Int.mul_tdiv_add_tmod a b; omega
      have h4 : 0 ≤ a → 0 ≤ a.tmod b := fun h => Int.tmod_nonneg b h
      show -9223372036854775808 ≤ a.tmod b ∧ a.tmod b ≤ 9223372036854775807
      have h5 : a.natAbs ≤ 9223372036854775808 := by omega
      rcases Int.natAbs_eq (a.tmod b) with h6 | h6
      · by_cases h0 : 0 ≤ a
        · omega
        · by_cases hm : a = -9223372036854775808
          · have h7 : a.tmod b ≤ 0 := by
              have := Int.tmod_nonneg b (a := -a) (by omega)
              rw [Int.neg_tmod] at this
              omega
            omega
          · omega
      · omega
  · exact numI_cmp _ _
theorem numI_nums (op : Int) (a b : Va) : numI (numsR op a b) := by
  unfold numsR
  repeat' split
  all_goals first | exact numI_dec _ _ | exact numI_cmp _ _ | exact numI_nul _
theorem numI_pts (op : Int) (a b : Va) : numI (ptsR op a b) := by
  unfold ptsR ptR placedR
  repeat' split
  all_goals first | exact numI_pt _ _ _ | exact numI_cmp _ _ | exact numI_nul _
theorem numI_bin (op : Int) (a b : Va) (ia : vin a) : numI (binR op a b) := by
  unfold binR
  split
  · exact numI_nul _
  split
  · unfold truR
    repeat' split
    all_goals first | exact numI_of _ _ | exact numI_nul _
  split
  · exact numI_nul _
  split
  · exact numI_ints _ _ _ ia.1
  split
  · exact numI_nums _ _ _
  split
  · exact numI_pts _ _ _
  split
  · unfold txtR
    repeat' split
    all_goals first | exact numI_nul _ | exact numI_cmp _ _ | exact fun h => by simp [vT] at h
  split
  · exact numI_cmp _ _
  · exact numI_nul _
theorem numI_neg (a : Va) : numI (negR a) := by
  unfold negR
  repeat' split
  all_goals first | exact numI_nul _ | exact numI_dec _ _ | exact numI_pt _ _ _ | exact numI_whole _ _ (nzI _)
theorem numI_un (op : Int) (a : Va) : numI (unR op a) := by
  unfold unR notR
  repeat' split
  all_goals first | exact numI_nul _ | exact numI_of _ _ | exact numI_bool _ _ | exact numI_neg _
theorem gv_bin (op : Int) (a b : Va) (ia : vin a) : gv (binR op a b).1 := gv_of (ok_bin op a b).1 (numI_bin op a b ia)
theorem gv_un (op : Int) (a : Va) : gv (unR op a).1 := gv_of (ok_un op a).1 (numI_un op a)
theorem gv_firstK (l : List Va) (h : ∀ x ∈ l, gv x) : gv (firstK l) := by
  induction l with
  | nil => exact gv_nul
  | cons x l ih =>
    unfold firstK
    split
    · exact ih fun y hy => h y (by simp [hy])
    · exact h x (by simp)
theorem gv_int (z : Int) (h : -9223372036854775808 ≤ z ∧ z ≤ 9223372036854775807) : gv (vI z) := gv_of (ok_int z).1 fun _ => h
theorem nrm_in (x y : Int) (hx : -1048576 ≤ x ∧ x ≤ 1048576) (hy : -1048576 ≤ y ∧ y ≤ 1048576) : -9223372036854775808 ≤ Ga.nrm x y ∧ Ga.nrm x y ≤ 9223372036854775807 := by
  unfold Ga.nrm
  split
  · have sq : ∀ z : Int, -1048576 ≤ z ∧ z ≤ 1048576 → 0 ≤ z * z ∧ z * z ≤ 1099511627776 := by
      intro z hz
      have e : z * z = ((z.natAbs * z.natAbs : Nat) : Int) := by rw [Int.natCast_mul, Int.natAbs_mul_self']
      have h1 : z.natAbs ≤ 1048576 := by omega
      have h2 : z.natAbs * z.natAbs ≤ 1048576 * 1048576 := Nat.mul_le_mul h1 h1
      rw [e]
      omega
    have h1 := sq x hx
    have h2 := sq y hy
    omega
  · omega
theorem gv_fun (nm : List UInt8) (l : List Va) (h : ∀ x ∈ l, gv x) : gv (funR nm l).1 := by
  unfold funR
  split
  · exact gv_nul
  split
  · exact gv_nul
  split
  · exact gv_firstK l h
  split
  · exact gv_nul
  match l, h with
  | [], _ => exact gv_nul
  | [a], h =>
    have ga := h a (by simp)
    have hok := (vr_iff a).1 ga.1
    unfold vok at hok
    show gv (cal1 nm a).1
    unfold cal1
    split
    · split
      · exact gv_int _ (by omega)
      · exact gv_nul
    split
    · split
      · unfold absR
        split
        · rename_i hn _
          have := ok_un 3 a
          have e : unR 3 a = negR a := by unfold unR; rw [if_neg (by simp [ga.1]), if_neg (by decide), if_neg (by decide)]
          rw [e] at this
          exact gv_of this.1 (numI_neg a)
        · exact ga
      · exact gv_nul
    split
    · split
      · exact gv_int _ (nrm_in _ _ (by omega) (by omega))
      · exact gv_nul
    split
    · split
      · exact gv_int _ (by omega)
      · exact gv_nul
    · split
      · exact gv_int _ (by omega)
      · exact gv_nul
  | [a, b], h =>
    show gv (cal2 nm a b).1
    unfold cal2
    split
    · split
      · unfold ptAtR
        split
        · rename_i h2
          exact gv_of (ok_pt _ _ h2).1 (numI_pt _ _ 0)
        · exact gv_nul
      · exact gv_nul
    · split
      · unfold rndR exactR
        split
        · split
          · rename_i h1 h2 h3
            obtain ⟨_, hr, _, _, hu, hs⟩ := rescale_ok _ _ _ h3
            have hr' := (rightS_iff _).1 hr
            refine gv_of (vr_of ?_) (fun _ => ?_)
            · rw [hs]; simp [vok, vD]; omega
            · show _ ≤ rU _ _ _ ∧ rU _ _ _ ≤ _
              unfold rU
              split
              · exact nzI _
              · omega
          · exact gv_nul
        · exact gv_nul
      · exact gv_nul
  | _ :: _ :: _ :: _, _ => exact gv_nul

theorem mem_drop_gv {st : List Va} {n : Nat} (h : ∀ x ∈ st, gv x) : ∀ x ∈ st.drop n, gv x := fun x hx => h x (List.mem_of_mem_drop hx)
theorem getD_gv {l : List Va} (h : ∀ x ∈ l, gv x) (i : Nat) : gv (l.getD i nul) := by
  rw [List.getD_eq_getElem?_getD]
  cases hi : l[i]? with
  | none => exact gv_nul
  | some v => exact h v (List.mem_of_getElem? hi)
/-- What a node comes to is good, where its values, the row's and its own are. -/
theorem gv_stp (x : Nd) (of : List Va) (ts ns : List (List UInt8)) (row : List Va) (h1 : x.o = 1 → gv x.v) (h2 : ∀ v ∈ of, gv v) (h3 : ∀ v ∈ row, gv v) : gv (stpR x of ts ns row).1 := by
  unfold stpR
  split
  · exact h1 (by assumption)
  split
  · unfold colR
    split
    · exact getD_gv h3 _
    · exact gv_nul
  split
  · exact gv_fun _ _ h2
  split
  · exact gv_un _ _
  · exact gv_bin _ _ _ (getD_gv h2 0).2
theorem gv_take {st : List Va} {n : Nat} {v : Va} (h : ∀ x ∈ st, gv x) (hv : gv v) : ∀ x ∈ st.take n ++ [v], gv x := by
  intro x hx
  rcases List.mem_append.1 hx with hx | hx
  · exact h x (List.mem_of_mem_take hx)
  · obtain rfl : x = v := by simpa using hx
    exact hv

end Go.Proofs.YtclhmmgdhagloaaGreatDoor

namespace Go.Proofs.YtclhmmgdhagloaaGreatDoor
open Go.RowKit Go.Shelf
attribute [local go_sem] cell?_more frozen?_more setCell_more more_lt more_more more_drew more_drewN setCell_drewN alloc_drewN

/-- A row of texts lies behind an address. -/
def Sl (w : World) (ao : Option Addr) (l : List (List UInt8)) : Prop :=
  0 < l.length → ∃ b off, ao = some ⟨b, off, none⟩ ∧ ∀ i (h : i < l.length), w.cell? ⟨b, off + i, none⟩ = some (.string ⟨l[i].toArray⟩)
theorem Sl.later {w w' : World} {ao : Option Addr} {l : List (List UInt8)} (h : Sl w ao l) (hb : Below w.heap.size w w') : Sl w' ao l := by
  intro hp
  obtain ⟨b, off, e, hc⟩ := h hp
  exact ⟨b, off, e, fun i hi => (hb.cell (p := ⟨b, off + i, none⟩) (World.block_lt_of_cell? w _ (hc i hi))).trans (hc i hi)⟩
/-- A scope as the program has it. -/
abbrev scv (ta na : Option Addr) (n m tc nc : Nat) : Value := .agg #[.slice ta n tc, .slice na m nc]

set_option maxRecDepth 20000 in
set_option maxHeartbeats 4000000 in
theorem find_any (ta na : Option Addr) (tc nc : Nat) (ts ns : List (List UInt8)) (t n : List UInt8) (w : World) (ht : Sl w ta ts) (hn : Sl w na ns) (hl : ns.length ≤ 140737488351232) :
    Calls Tryz.prog 23 #[scv ta na ts.length ns.length tc nc, .string ⟨t.toArray⟩, .string ⟨n.toArray⟩] w fun e w' => e = .returned (.tuple #[.int .i64 ((findR ts ns t n).1 : Int), .int .i64 (findR ts ns t n).2]) ∧ Below w.heap.size w w' := by
  unfold findR
  by_cases hne : ts.length = ns.length
  case neg =>
    rw [if_neg hne]
    clear ht hn hl
    generalize ts.length = p at *
    generalize ns.length = q at *
    have h1 : ¬ (p : Int) = (q : Int) := by omega
    go_enter Tryz.func23, Tryz.ntmps23
    go_wp2
    refine bodyPost_ret_by (v := .tuple #[.int .i64 0, .int .i64 1]) ?_ rfl ⟨rfl, (Below.refl _ _).alloc (Nat.le_refl _) _⟩
    simp [results, Tryz.results23, go_sem]
  rw [if_pos hne]
  obtain ⟨R, hR⟩ : ∃ R, R = findS t n (ts.zip ns) 0 0 0 := ⟨_, rfl⟩
  rw [← hR]
  have HR : Hid (findS t n ((ts.zip ns).drop 0) 0 0 0 = R) := hR.symm
  clear hR
  obtain ⟨m, hm⟩ : ∃ m, ns.length = m := ⟨_, rfl⟩
  have HM : Hid (ns.length = m) := hm
  have HT : Hid (ts.length = m) := by show _ = _; omega
  rw [show ts.length = m from HT.out, hm]
  rw [hm] at hl
  have BX : Cbox (w.alloc (.cells #[.slice ta m tc, .slice na m nc] 51)) w.heap.size #[.slice ta m tc, .slice na m nc] 51 := Cbox.new w _ _
  have A1 : Below w.heap.size w (w.alloc (.cells #[.slice ta m tc, .slice na m nc] 51)) := (Below.refl _ _).alloc (Nat.le_refl _) _
  clear hm hne
  obtain ⟨TB, hTB⟩ : ∃ TB : ByteArray, TB = ⟨t.toArray⟩ := ⟨_, rfl⟩
  obtain ⟨NB, hNB⟩ : ∃ NB : ByteArray, NB = ⟨n.toArray⟩ := ⟨_, rfl⟩
  have HTB : Hid (TB.toList = t) := by show _ = _; rw [hTB, ByteArray.toList_eq]
  have HNB : Hid (NB.toList = n) := by show _ = _; rw [hNB, ByteArray.toList_eq]
  rw [← hTB, ← hNB]
  clear hTB hNB
  go_enter Tryz.func23, Tryz.ntmps23
  go_wp2
  go_loopw [8, 9, 22] (fun r8 r9 r22 wr => ∃ k p c : Nat, r8 = .int .i64 (p : Int) ∧ r9 = .int .i64 (c : Int) ∧ r22 = .int .i64 (k : Int) ∧ k ≤ m ∧ c ≤ k ∧ wr = (w.alloc (.cells #[.slice ta m tc, .slice na m nc] 51)) ∧ Hid (findS t n ((ts.zip ns).drop k) k p c = R)) (fun _ _ r _ => m - (intOf r).toNat)
  case atStart => exact ⟨0, 0, 0, rfl, rfl, rfl, Nat.zero_le _, Nat.zero_le _, rfl, HR⟩
  case round =>
    obtain ⟨k, p, c, rfl, rfl, rfl, hk, hck, rfl, hH⟩ := hrel
    have z0 := BX.at 0
    have z1 := BX.at 1
    have zl := BX.lt
    by_cases hlt : k < m
    · have hlt' : (k : Int) < (m : Int) := by omega
      have k0 : (0 : Int) ≤ (k : Int) := by omega
      have hkn : k < ns.length := by rw [HM.out]; exact hlt
      have hkt : k < ts.length := by rw [HT.out]; exact hlt
      obtain ⟨nb, noff, rfl, hcn⟩ := (hn.later A1) (by omega)
      obtain ⟨tb, toff, rfl, hct⟩ := (ht.later A1) (by omega)
      have cn := hcn k hkn
      have ct := hct k hkt
      have gn := World.block_lt_of_cell? _ _ cn
      have gt := World.block_lt_of_cell? _ _ ct
      have hzl : k < (ts.zip ns).length := by rw [List.length_zip]; omega
      have hdr : (ts.zip ns).drop k = (ts[k], ns[k]) :: (ts.zip ns).drop (k + 1) := by rw [List.drop_eq_getElem_cons hzl, List.getElem_zip]
      have hst := hH.out
      rw [hdr] at hst
      unfold findS at hst
      obtain ⟨SN, hSN⟩ : ∃ SN : ByteArray, SN = ⟨ns[k].toArray⟩ := ⟨_, rfl⟩
      obtain ⟨ST, hST⟩ : ∃ ST : ByteArray, ST = ⟨ts[k].toArray⟩ := ⟨_, rfl⟩
      have e1 : SN.toList = ns[k] := by rw [hSN, ByteArray.toList_eq]
      have e2 : ST.toList = ts[k] := by rw [hST, ByteArray.toList_eq]
      rw [← hSN] at cn
      rw [← hST] at ct
      rw [← e1, ← e2, ← HNB.out, ← HTB.out] at hst
      simp only at gn gt
      have HS : Hid ((if SN.toList = NB.toList ∧ (TB.toList = [] ∨ ST.toList = TB.toList) then findS TB.toList NB.toList ((ts.zip ns).drop (k + 1)) (k + 1) k (c + 1) else findS TB.toList NB.toList ((ts.zip ns).drop (k + 1)) (k + 1) p c) = R) := hst
      have HB : Hid (Below w.heap.size w (w.alloc (.cells #[.slice (some ⟨tb, toff, none⟩) m tc, .slice (some ⟨nb, noff, none⟩) m nc] 51))) := A1
      clear hcn hct hdr hst hH hSN hST e1 e2 HR A1 BX hn ht hzl
      by_cases q1 : SN.toList = NB.toList
      · have q1' : (SN.toList == NB.toList) = true := by rw [beq_iff_eq]; exact q1
        by_cases q2 : TB.toList = []
        · have q2' : TB.toList.isEmpty = true := by rw [List.isEmpty_iff]; exact q2
          have HF : Hid (findS t n ((ts.zip ns).drop (k + 1)) (k + 1) k (c + 1) = R) := by have := HS.out; rw [if_pos ⟨q1, .inl q2⟩, HTB.out, HNB.out] at this; exact this
          clear q1 q2 HS
          go_wp2
          exact ⟨⟨k + 1, k, c + 1, rfl, by simp, by simp, by omega, by omega, (by first | trivial | rfl), HF⟩, by simp [intOf]; omega⟩
        · have q2' : TB.toList.isEmpty = false := by rw [← Bool.not_eq_true, List.isEmpty_iff]; exact q2
          by_cases q3 : ST.toList = TB.toList
          · have q3' : (ST.toList == TB.toList) = true := by rw [beq_iff_eq]; exact q3
            have HF : Hid (findS t n ((ts.zip ns).drop (k + 1)) (k + 1) k (c + 1) = R) := by have := HS.out; rw [if_pos ⟨q1, .inr q3⟩, HTB.out, HNB.out] at this; exact this
            clear q1 q2 q3 HS
            go_wp2
            exact ⟨⟨k + 1, k, c + 1, rfl, by simp, by simp, by omega, by omega, (by first | trivial | rfl), HF⟩, by simp [intOf]; omega⟩
          · have q3' : (ST.toList == TB.toList) = false := by rw [beq_eq_false_iff_ne]; exact q3
            have HF : Hid (findS t n ((ts.zip ns).drop (k + 1)) (k + 1) p c = R) := by have := HS.out; rw [if_neg (fun h => by rcases h.2 with h | h; exact q2 h; exact q3 h), HTB.out, HNB.out] at this; exact this
            clear q1 q2 q3 HS
            go_wp2
            exact ⟨⟨k + 1, p, c, rfl, rfl, by simp, by omega, by omega, (by first | trivial | rfl), HF⟩, by simp [intOf]; omega⟩
      · have q1' : (SN.toList == NB.toList) = false := by rw [beq_eq_false_iff_ne]; exact q1
        have HF : Hid (findS t n ((ts.zip ns).drop (k + 1)) (k + 1) p c = R) := by have := HS.out; rw [if_neg (fun h => q1 h.1), HTB.out, HNB.out] at this; exact this
        clear q1 HS
        go_wp2
        exact ⟨⟨k + 1, p, c, rfl, rfl, by simp, by omega, by omega, (by first | trivial | rfl), HF⟩, by simp [intOf]; omega⟩
    · have hlt' : ¬ (k : Int) < (m : Int) := by omega
      have hRR : (p, c) = R := by
        have := hH.out
        rw [List.drop_eq_nil_of_le (by rw [List.length_zip, HM.out, HT.out]; omega)] at this
        exact this
      subst hRR
      have HB : Hid (Below w.heap.size w (w.alloc (.cells #[.slice ta m tc, .slice na m nc] 51))) := A1
      clear hH HR A1 BX hn ht
      by_cases hc1 : c = 1
      · subst hc1
        go_wp2
        refine bodyPost_ret_by (v := .tuple #[.int .i64 (p : Int), .int .i64 0]) ?_ rfl ⟨rfl, HB.out⟩
        simp [results, Tryz.results23, go_sem]
      · have hc1' : ¬ (c : Int) = 1 := by omega
        go_wp2
        refine bodyPost_ret_by (v := .tuple #[.int .i64 0, .int .i64 34]) ?_ rfl ⟨rfl, HB.out⟩
        simp [results, Tryz.results23, go_sem]
end Go.Proofs.YtclhmmgdhagloaaGreatDoor

namespace Go.Proofs.YtclhmmgdhagloaaGreatDoor
open Go.ChangeShapes Go.WideShapes Go.ChangeAt Go.WideMaps Go.WideElems Go.RowKit Go.Shelf Go.Lib

theorem bytes16 : Tryz.prog.bytesOf 9 = 16 := by kernel_rfl

set_option maxRecDepth 100000 in
theorem strs_open7 {H : Type} {enc : TypeId × Value → H} {W : World} {a : Option Addr} {len cap fuel : Nat} {cs : List Value} {x : DataW H × List MemPlace}
    (hf : DataW.trod enc Tryz.prog W 0 (fun _ => true) true fuel 45 cs = some x) (hcs : cs = [.slice a len cap]) :
    ∃ ss : List (List UInt8), (Sl W a ss ∧ ss.length = len ∧ len ≤ cap ∧ (a = none → ss = [])) ∧ (cap = 0 ∨ cap * 16 ∈ x.1.weights Tryz.prog 45) := by
  subst hcs
  rcases open_strings Tryz.underlying45 Tryz.underlying9 (by kernel_rfl) hf with ⟨hcs, _⟩ | ⟨y, l, c, zs, hcs, _, hl, hm, hz, hx, hcell, hwz⟩
  · simp at hcs
    obtain ⟨rfl, rfl, rfl⟩ := hcs
    exact ⟨[], ⟨fun h => by simp at h, rfl, Nat.le_refl _, fun _ => rfl⟩, .inl rfl⟩
  · simp at hcs
    obtain ⟨rfl, rfl, rfl⟩ := hcs
    have hzl : zs.length = cap := by simpa using hz
    refine ⟨(zs.take len).map fun z => z.data.toList, ⟨fun hp => ?_, by simp; omega, hl, fun h => by cases h⟩, .inr ?_⟩
    · simp only [List.length_map, List.length_take] at hp
      obtain ⟨b, off, spot⟩ := y
      have h0 := hcell 0 (by omega)
      have hspot : spot = none := by simpa [Addr.add] using World.cell?_spot h0
      subst hspot
      refine ⟨b, off, rfl, fun i hi => ?_⟩
      simp only [List.length_map, List.length_take] at hi
      have hci := hcell i (by omega)
      rw [Addr.add_lit] at hci
      rw [hci, List.getElem_map, List.getElem_take]
      simp [List.getD, show i < zs.length by omega]
    · rw [hx]
      simp only [DataW.weights, Tryz.underlying45, List.mem_cons]
      left
      rw [bytes16]
      congr 1
      simp [strs]
      omega

set_option maxRecDepth 100000 in
theorem scope_open {H : Type} {enc : TypeId × Value → H} {W : World} {fuel : Nat} {cs : List Value} {x : DataW H × List MemPlace}
    (hf : DataW.trod enc Tryz.prog W 0 (fun _ => true) true fuel 47 cs = some x) :
    ∃ ta tn tc na nn nc, cs = [.slice ta tn tc, .slice na nn nc] ∧ ∃ ts ns : List (List UInt8), Sl W ta ts ∧ ts.length = tn ∧ Sl W na ns ∧ ns.length = nn ∧ (ta = none → ts = []) ∧ (na = none → ns = []) ∧ tn ≤ tc ∧ nn ≤ nc ∧ (tc = 0 ∨ tc * 16 ∈ x.1.weights Tryz.prog 47) ∧ (nc = 0 ∨ nc * 16 ∈ x.1.weights Tryz.prog 47) := by
  obtain ⟨y0, y1, m, hx, hl, h0, h1⟩ := trod_struct2 Tryz.underlying47 hf
  have hc : Tryz.prog.cellsOf 47 = 2 := by kernel_rfl
  have c1 : Tryz.prog.cellsOf 45 = 1 := by kernel_rfl
  rw [hc] at hl
  match cs, hl with
  | [v0, v1], _ =>
    rw [c1] at h0 h1
    have h0' : DataW.trod enc Tryz.prog W 0 (fun _ => true) true m 45 [v0] = some y0 := h0
    have h1' : DataW.trod enc Tryz.prog W 0 (fun _ => true) true m 45 [v1] = some y1 := h1
    obtain ⟨a, la, ca, e0⟩ := Go.Joins.slice_form Tryz.underlying45 h0'
    obtain ⟨b, lb, cb, e1⟩ := Go.Joins.slice_form Tryz.underlying45 h1'
    simp only [List.cons.injEq, and_true] at e0 e1
    subst e0; subst e1
    obtain ⟨ts, ⟨s1, s2, s3, s4⟩, s5⟩ := strs_open7 (a := a) (len := la) (cap := ca) h0' rfl
    obtain ⟨ns, ⟨t1, t2, t3, t4⟩, t5⟩ := strs_open7 (a := b) (len := lb) (cap := cb) h1' rfl
    have hw : x.1.weights Tryz.prog 47 = y0.1.weights Tryz.prog 45 ++ (y1.1.weights Tryz.prog 45 ++ []) := by
      rw [hx]
      simp [DataW.weights, Tryz.underlying47, DataW.weightsEach]
    rw [hw]
    refine ⟨a, la, ca, b, lb, cb, rfl, ts, ns, s1, s2, t1, t2, s4, t4, s3, t3, ?_, ?_⟩
    · rcases s5 with h | h
      · exact .inl h
      · exact .inr (by simp [h])
    · rcases t5 with h | h
      · exact .inl h
      · exact .inr (by simp [h])

theorem scope_sized {H : Type} {ts : List TypeId} {ds : List (DataW H)} {j : Nat} {d : DataW H} {tc nc : Nat} (h : (DataW.weightsEach Tryz.prog ts ds).all (· ≤ reachBytes) = true) (ht : ts[j]? = some 47) (hd : ds[j]? = some d)
    (h1 : tc = 0 ∨ tc * 16 ∈ d.weights Tryz.prog 47) (h2 : nc = 0 ∨ nc * 16 ∈ d.weights Tryz.prog 47) : tc * 16 ≤ 140737488351232 ∧ nc * 16 ≤ 140737488351232 := by
  constructor
  · rcases h1 with rfl | h1
    · simp
    · have := List.all_eq_true.1 h _ (DataW.weights_mem_each ht hd _ h1)
      exact of_decide_eq_true this
  · rcases h2 with rfl | h2
    · simp
    · have := List.all_eq_true.1 h _ (DataW.weights_mem_each ht hd _ h2)
      exact of_decide_eq_true this
end Go.Proofs.YtclhmmgdhagloaaGreatDoor

namespace Go.Proofs.YtclhmmgdhagloaaGreatDoor
open Go.RowKit Go.Shelf
attribute [local go_sem] cell?_more frozen?_more setCell_more more_lt more_more more_drew more_drewN setCell_drewN alloc_drewN

/-- A node, a scope and an answer in blocks of their own. -/
theorem node_boxes (w : World) (x : Nd) (a b : Value) : ∃ w0, w0 = ((w.alloc (.cells (ncs x) 44)).alloc (.cells #[a, b] 51)).alloc (.cells #[.int .i64 0, .int .i64 0, .int .i64 0, .string ⟨#[]⟩] 42) ∧
    Cbox w0 w.heap.size (ncs x) 44 ∧ Cbox w0 (w.heap.size + 1) #[a, b] 51 ∧ Box w0 (w.heap.size + 1 + 1) nul ∧ Below w.heap.size w w0 := by
  have h1 := Cbox.new w (ncs x) 44
  have h2 := Cbox.new (w.alloc (.cells (ncs x) 44)) #[a, b] 51
  have h3 := Box.new ((w.alloc (.cells (ncs x) 44)).alloc (.cells #[a, b] 51)) 0 0 0 []
  simp only [World.size_alloc] at h2 h3
  refine ⟨_, rfl, (h1.later ((Below.refl _ _).alloc (Nat.le_refl _) _)).later ((Below.refl _ _).alloc (Nat.le_refl _) _), h2.later ((Below.refl _ _).alloc (Nat.le_refl _) _), h3, ?_⟩
  exact (((Below.refl _ w).alloc (Nat.le_refl _) _).alloc (by simp) _).alloc (by simp; omega) _
theorem res_kept {w w' : World} {p q : Nat} (h : Below p w w') (hp : p ≤ q) (a b c : Int) (s : ByteArray) : Below p w ((((w'.setCell ⟨q, 0, none⟩ (.int .i64 a)).setCell ⟨q, 1, none⟩ (.int .i64 b)).setCell ⟨q, 2, none⟩ (.int .i64 c)).setCell ⟨q, 3, none⟩ (.string s)) :=
  (h.setCell (p := ⟨q, 0, none⟩) hp _ |>.setCell (p := ⟨q, 1, none⟩) hp _ |>.setCell (p := ⟨q, 2, none⟩) hp _ |>.setCell (p := ⟨q, 3, none⟩) hp _)

set_option maxRecDepth 20000 in
set_option maxHeartbeats 4000000 in
theorem colv_any (x : Nd) (ta na ro : Option Addr) (tc nc rc : Nat) (ts ns : List (List UInt8)) (row : List Va) (w : World) (ht : Sl w ta ts) (hn : Sl w na ns) (hr : Vs w ro row) (hlen : ns.length = row.length) (hl : row.length ≤ 140737488351232) :
    Calls Tryz.prog 89 #[ndv x, scv ta na ts.length ns.length tc nc, .slice ro row.length rc] w fun e w' => e = .returned (rs (colR x ts ns row)) ∧ Below w.heap.size w w' := by
  have F : Hid (∀ W, Below w.heap.size w W → Calls Tryz.prog 23 #[scv ta na ts.length ns.length tc nc, .string ⟨x.t.toArray⟩, .string ⟨x.n.toArray⟩] W fun e w' => e = .returned (.tuple #[.int .i64 ((findR ts ns x.t x.n).1 : Int), .int .i64 (findR ts ns x.t x.n).2]) ∧ Below W.heap.size W w') := fun W h => find_any ta na tc nc ts ns x.t x.n W (ht.later h) (hn.later h) (by omega)
  have AT := fun h => findR_at (ts := ts) (ns := ns) (t := x.t) (n := x.n) h
  unfold colR
  generalize findR ts ns x.t x.n = f at *
  obtain ⟨fp, fe⟩ := f
  simp only at F AT ⊢
  have AL : Hid (fe = 0 → fp < row.length) := fun h => by
    obtain ⟨h1, _⟩ := AT h
    omega
  clear AT ht hn hlen
  obtain ⟨xo, xt, xn, xv, xa⟩ := x
  generalize ts.length = p at *
  generalize ns.length = q at *
  obtain ⟨w0, hw0, bn, bs, br0, Bw⟩ := node_boxes w ⟨xo, xt, xn, xv, xa⟩ (.slice ta p tc) (.slice na q nc)
  have n1 := bn.at 1
  have n2 := bn.at 2
  have ln := bn.lt
  have s0 := bs.at 0
  have s1 := bs.at 1
  have ls := bs.lt
  by_cases h0 : fe = 0
  · subst h0
    rw [if_pos rfl]
    have hpr : fp < row.length := AL.out rfl
    obtain ⟨b, off, rfl, hc⟩ := hr (by omega)
    have hc' := hc fp hpr
    have e : row.getD fp nul = row[fp] := by rw [List.getD_eq_getElem?_getD, List.getElem?_eq_getElem hpr]; rfl
    rw [e]
    generalize row[fp] = v at *
    obtain ⟨vk, vn, vm, vb⟩ := v
    have HC : Hid (At4 w b (off + fp * 4) ⟨vk, vn, vm, vb⟩) := hc'
    have HB : Hid (Below w.heap.size w w0) := Bw
    have HX : Hid (Box w0 (w.heap.size + 1 + 1) nul) := br0
    have hpr' : (fp : Int) < (row.length : Int) := by omega
    have hp0 : (0 : Int) ≤ (fp : Int) := by omega
    clear hc hc' hr AL e bn bs br0 Bw
    generalize row.length = m at *
    go_enter Tryz.func89, Tryz.ntmps89
    go_upto_region 1 with fail
    rw [← hw0]
    clear hw0
    go_wp2_with fail
    refine (F.out _ HB.out).mono ?_
    rintro e w1 ⟨rfl, b1⟩
    have B1 := below_trans HB.out b1
    have br := HX.out.later b1
    obtain ⟨c0, c1, c2, c3⟩ := HC.out.later B1
    have hg := (HC.out.later B1).lt
    obtain ⟨r0, r1, r2, r3⟩ := br.at4
    dsimp only [nul] at r0 r1 r2 r3
    simp only [Nat.zero_add] at r1 r2 r3
    have f0 := br.free 0
    have f1 := br.free 1
    have f2 := br.free 2
    have f3 := br.free 3
    have lt1 := br.lt
    clear n1 n2 ln s0 s1 ls F
    go_wp2
    refine bodyPost_ret_by (v := .tuple #[va vk vn vm ⟨vb.toArray⟩, .int .i64 0]) ?_ rfl ⟨rfl, res_kept B1 (by omega) _ _ _ _⟩
    simp [results, Tryz.results89, go_sem, r0, r1, r2, r3]
  · rw [if_neg h0]
    have h0' : ¬ fe = 0 := h0
    have HB : Hid (Below w.heap.size w w0) := Bw
    have HX : Hid (Box w0 (w.heap.size + 1 + 1) nul) := br0
    clear hr AL bn bs br0 Bw
    generalize row.length = m at *
    go_enter Tryz.func89, Tryz.ntmps89
    go_upto_region 1 with fail
    rw [← hw0]
    clear hw0
    go_wp2_with fail
    refine (F.out _ HB.out).mono ?_
    rintro e w1 ⟨rfl, b1⟩
    have B1 := below_trans HB.out b1
    have br := HX.out.later b1
    obtain ⟨r0, r1, r2, r3⟩ := br.at4
    dsimp only [nul] at r0 r1 r2 r3
    simp only [Nat.zero_add] at r1 r2 r3
    have f0 := br.free 0
    have f1 := br.free 1
    have f2 := br.free 2
    have f3 := br.free 3
    have lt1 := br.lt
    clear n1 n2 ln s0 s1 ls F
    go_wp2
    refine bodyPost_ret_by (v := .tuple #[va 0 0 0 ⟨#[]⟩, .int .i64 fe]) ?_ rfl ⟨rfl, res_kept B1 (by omega) _ _ _ _⟩
    simp [results, Tryz.results89, go_sem, r0, r1, r2, r3]

set_option maxHeartbeats 4000000 in
theorem eops_any (x : Nd) (w : World) : Calls Tryz.prog 48 #[ndv x] w fun e w' => e = .returned (.int .i64 (opsN x)) ∧ Grew w w' := by
  obtain ⟨o, t, n, v, a⟩ := x
  unfold opsN
  simp only
  by_cases h1 : o = 19
  · subst h1
    rw [if_pos rfl]
    go_enter Tryz.func48, Tryz.ntmps48
    go_wp2
    go_ret
    exact ⟨rfl, (Grew.refl _).alloc _⟩
  rw [if_neg h1]
  have e1 : (o == 19) = false := by rw [beq_eq_false_iff_ne]; exact h1
  by_cases h2 : 6 ≤ o
  · rw [if_pos h2]
    go_enter Tryz.func48, Tryz.ntmps48
    go_wp2
    go_ret
    exact ⟨rfl, (Grew.refl _).alloc _⟩
  rw [if_neg h2]
  by_cases h3 : 3 ≤ o
  · rw [if_pos h3]
    go_enter Tryz.func48, Tryz.ntmps48
    go_wp2
    go_ret
    exact ⟨rfl, (Grew.refl _).alloc _⟩
  · rw [if_neg h3]
    go_enter Tryz.func48, Tryz.ntmps48
    go_wp2
    go_ret
    exact ⟨rfl, (Grew.refl _).alloc _⟩

set_option maxHeartbeats 2000000 in
theorem apart_any (v : Va) (w : World) (hb : v.b.length ≤ 140737488351232) : Calls Tryz.prog 50 #[vv v] w fun e w' => e = .returned (vv v) ∧ Below w.heap.size w w' := by
  obtain ⟨vk, vn, vm, vb⟩ := v
  have C := fun W => clone_any ⟨vb.toArray⟩ W hb
  obtain ⟨w0, hw0, bx, br0, Bw⟩ := one_boxes w ⟨vk, vn, vm, vb⟩
  dsimp only at hw0
  obtain ⟨c0, c1, c2, c3⟩ := bx.at4
  have lt0 := bx.lt
  dsimp only at c0 c1 c2 c3
  simp only [Nat.zero_add] at c1 c2 c3
  go_enter Tryz.func50, Tryz.ntmps50
  go_upto_region 1 with fail
  rw [← hw0]
  clear hw0
  have HB : Hid (Below w.heap.size w w0) := Bw
  have HX : Hid (Box w0 (w.heap.size + 1) nul) := br0
  have HV : Hid (Box w0 w.heap.size ⟨vk, vn, vm, vb⟩) := bx
  go_wp2_with fail
  refine (C _).mono ?_
  rintro e w1 ⟨rfl, b1⟩
  have B1 := below_trans HB.out b1
  have br := HX.out.later b1
  have bv := HV.out.later b1
  obtain ⟨r0, r1, r2, r3⟩ := br.at4
  obtain ⟨d0, d1, d2, d3⟩ := bv.at4
  dsimp only [nul] at r0 r1 r2 r3 d0 d1 d2 d3
  simp only [Nat.zero_add] at r1 r2 r3 d1 d2 d3
  have f0 := br.free 0
  have f1 := br.free 1
  have f2 := br.free 2
  have f3 := br.free 3
  have g3 := bv.free 3
  have lt1 := br.lt
  have lt2 := bv.lt
  clear c0 c1 c2 c3 lt0 C
  go_wp2
  refine bodyPost_ret_by (v := va vk vn vm ⟨vb.toArray⟩) ?_ rfl ⟨rfl, ?_⟩
  · simp [results, Tryz.results50, go_sem, r0, r1, r2, r3]
  · exact res_kept (B1.setCell (p := ⟨w.heap.size, 3, none⟩) (Nat.le_refl _) _) (by omega) _ _ _ _
end Go.Proofs.YtclhmmgdhagloaaGreatDoor

namespace Go.Proofs.YtclhmmgdhagloaaGreatDoor
open Go.RowKit Go.Shelf
attribute [local go_sem] cell?_more frozen?_more setCell_more more_lt more_more more_drew more_drewN setCell_drewN alloc_drewN cell?_drawTo frozen?_drawTo heap_drawTo setCell_drawTo alloc_drawTo drewN_drawTo drew_drawTo drawTo_drewN drawTo_drew drawTo_drawTo more_drawTo

set_option maxRecDepth 20000 in
set_option maxHeartbeats 4000000 in
theorem stp_val (xt xn vb : List UInt8) (vk vn vm xa : Int) (wo ta na ro : Option Addr) (wc tc nc rc p q m : Nat) (n : Nat) (w : World)  :
    Calls Tryz.prog 49 #[.agg #[.int .i64 1, .string ⟨xt.toArray⟩, .string ⟨xn.toArray⟩, .int .i64 vk, .int .i64 vn, .int .i64 vm, .string ⟨vb.toArray⟩, .int .i64 xa], .slice wo n wc, scv ta na p q tc nc, .slice ro m rc] w fun e w' => e = .returned (.tuple #[va vk vn vm ⟨vb.toArray⟩, .int .i64 0]) ∧ Below w.heap.size w w' := by
  obtain ⟨w0, hw0, bn, bs, br0, Bw⟩ := node_boxes w ⟨1, xt, xn, ⟨vk, vn, vm, vb⟩, xa⟩ (.slice ta p tc) (.slice na q nc)
  have n0 := bn.at 0
  have n1 := bn.at 1
  have n2 := bn.at 2
  have n3 := bn.at 3
  have n4 := bn.at 4
  have n5 := bn.at 5
  have n6 := bn.at 6
  have n7 := bn.at 7
  have ln := bn.lt
  have s0 := bs.at 0
  have s1 := bs.at 1
  have ls := bs.lt
  have HB : Hid (Below w.heap.size w w0) := Bw
  have HX : Hid (Box w0 (w.heap.size + 1 + 1) nul) := br0
  clear bn bs br0 Bw
  go_enter Tryz.func49, Tryz.ntmps49
  go_upto_region 1 with fail
  rw [← hw0]
  clear hw0
  have br := HX.out
  have lt1 := br.lt
  obtain ⟨r0, r1, r2, r3⟩ := br.at4
  dsimp only [nul] at r0 r1 r2 r3
  simp only [Nat.zero_add] at r1 r2 r3
  have f0 := br.free 0
  have f1 := br.free 1
  have f2 := br.free 2
  have f3 := br.free 3
  go_wp2
  refine bodyPost_ret_by (v := .tuple #[va vk vn vm ⟨vb.toArray⟩, .int .i64 0]) ?_ rfl ⟨rfl, res_kept HB.out (by omega) _ _ _ _⟩
  simp [results, Tryz.results49, go_sem, r0, r1, r2, r3]

set_option maxRecDepth 20000 in
set_option maxHeartbeats 4000000 in
theorem stp_col (xt xn vb : List UInt8) (vk vn vm xa : Int) (wo ta na ro : Option Addr) (wc tc nc rc p q m : Nat) (n : Nat) (w : World) (rk rn rm re : Int) (rb : ByteArray) (F : Tells 89 #[.agg #[.int .i64 2, .string ⟨xt.toArray⟩, .string ⟨xn.toArray⟩, .int .i64 vk, .int .i64 vn, .int .i64 vm, .string ⟨vb.toArray⟩, .int .i64 xa], scv ta na p q tc nc, .slice ro m rc] w (.tuple #[va rk rn rm rb, .int .i64 re])) :
    Calls Tryz.prog 49 #[.agg #[.int .i64 2, .string ⟨xt.toArray⟩, .string ⟨xn.toArray⟩, .int .i64 vk, .int .i64 vn, .int .i64 vm, .string ⟨vb.toArray⟩, .int .i64 xa], .slice wo n wc, scv ta na p q tc nc, .slice ro m rc] w fun e w' => e = .returned (.tuple #[va rk rn rm rb, .int .i64 re]) ∧ Below w.heap.size w w' := by
  obtain ⟨w0, hw0, bn, bs, br0, Bw⟩ := node_boxes w ⟨2, xt, xn, ⟨vk, vn, vm, vb⟩, xa⟩ (.slice ta p tc) (.slice na q nc)
  have n0 := bn.at 0
  have n1 := bn.at 1
  have n2 := bn.at 2
  have n3 := bn.at 3
  have n4 := bn.at 4
  have n5 := bn.at 5
  have n6 := bn.at 6
  have n7 := bn.at 7
  have ln := bn.lt
  have s0 := bs.at 0
  have s1 := bs.at 1
  have ls := bs.lt
  have HB : Hid (Below w.heap.size w w0) := Bw
  have HX : Hid (Box w0 (w.heap.size + 1 + 1) nul) := br0
  clear bn bs br0 Bw
  go_enter Tryz.func49, Tryz.ntmps49
  go_upto_region 1 with fail
  rw [← hw0]
  clear hw0
  go_wp2_with fail
  refine (F _ HB.out).mono ?_
  rintro e w1 ⟨rfl, b1⟩
  have B1 := below_trans HB.out b1
  have br := HX.out.later b1
  have lt1 := br.lt
  obtain ⟨r0, r1, r2, r3⟩ := br.at4
  dsimp only [nul] at r0 r1 r2 r3
  simp only [Nat.zero_add] at r1 r2 r3
  have f0 := br.free 0
  have f1 := br.free 1
  have f2 := br.free 2
  have f3 := br.free 3
  clear n0 n1 n2 n3 n4 n5 n6 n7 ln s0 s1 ls F
  go_wp2
  refine bodyPost_ret_by (v := .tuple #[va rk rn rm rb, .int .i64 re]) ?_ rfl ⟨rfl, res_kept B1 (by omega) _ _ _ _⟩
  simp [results, Tryz.results49, go_sem, r0, r1, r2, r3]

set_option maxRecDepth 20000 in
set_option maxHeartbeats 4000000 in
theorem stp_fun (xt xn vb : List UInt8) (vk vn vm xa : Int) (wo ta na ro : Option Addr) (wc tc nc rc p q m : Nat) (n : Nat) (w : World) (rk rn rm re : Int) (rb : ByteArray) (F : Tells 46 #[.string ⟨xn.toArray⟩, .slice wo n wc] w (.tuple #[va rk rn rm rb, .int .i64 re])) :
    Calls Tryz.prog 49 #[.agg #[.int .i64 19, .string ⟨xt.toArray⟩, .string ⟨xn.toArray⟩, .int .i64 vk, .int .i64 vn, .int .i64 vm, .string ⟨vb.toArray⟩, .int .i64 xa], .slice wo n wc, scv ta na p q tc nc, .slice ro m rc] w fun e w' => e = .returned (.tuple #[va rk rn rm rb, .int .i64 re]) ∧ Below w.heap.size w w' := by
  obtain ⟨w0, hw0, bn, bs, br0, Bw⟩ := node_boxes w ⟨19, xt, xn, ⟨vk, vn, vm, vb⟩, xa⟩ (.slice ta p tc) (.slice na q nc)
  have n0 := bn.at 0
  have n1 := bn.at 1
  have n2 := bn.at 2
  have n3 := bn.at 3
  have n4 := bn.at 4
  have n5 := bn.at 5
  have n6 := bn.at 6
  have n7 := bn.at 7
  have ln := bn.lt
  have s0 := bs.at 0
  have s1 := bs.at 1
  have ls := bs.lt
  have HB : Hid (Below w.heap.size w w0) := Bw
  have HX : Hid (Box w0 (w.heap.size + 1 + 1) nul) := br0
  clear bn bs br0 Bw
  go_enter Tryz.func49, Tryz.ntmps49
  go_upto_region 1 with fail
  rw [← hw0]
  clear hw0
  go_wp2_with fail
  refine (F _ HB.out).mono ?_
  rintro e w1 ⟨rfl, b1⟩
  have B1 := below_trans HB.out b1
  have br := HX.out.later b1
  have lt1 := br.lt
  obtain ⟨r0, r1, r2, r3⟩ := br.at4
  dsimp only [nul] at r0 r1 r2 r3
  simp only [Nat.zero_add] at r1 r2 r3
  have f0 := br.free 0
  have f1 := br.free 1
  have f2 := br.free 2
  have f3 := br.free 3
  clear n0 n1 n2 n3 n4 n5 n6 n7 ln s0 s1 ls F
  go_wp2
  refine bodyPost_ret_by (v := .tuple #[va rk rn rm rb, .int .i64 re]) ?_ rfl ⟨rfl, res_kept B1 (by omega) _ _ _ _⟩
  simp [results, Tryz.results49, go_sem, r0, r1, r2, r3]

set_option maxRecDepth 20000 in
set_option maxHeartbeats 4000000 in
theorem stp_one (xo : Int) (xt xn vb : List UInt8) (vk vn vm xa : Int) (wo ta na ro : Option Addr) (wc tc nc rc p q m : Nat) (w : World) (bk off : Nat) (ak an am : Int) (ab : List UInt8) (hwo : wo = some ⟨bk, off, none⟩) (h4 : At4 w bk off ⟨ak, an, am, ab⟩) (o1 : (xo == 1) = false) (o2 : (xo == 2) = false) (o19 : (xo == 19) = false) (rk rn rm re : Int) (rb : ByteArray) (F : Tells 90 #[.int .i64 xo, va ak an am ⟨ab.toArray⟩] w (.tuple #[va rk rn rm rb, .int .i64 re])) :
    Calls Tryz.prog 49 #[.agg #[.int .i64 xo, .string ⟨xt.toArray⟩, .string ⟨xn.toArray⟩, .int .i64 vk, .int .i64 vn, .int .i64 vm, .string ⟨vb.toArray⟩, .int .i64 xa], .slice wo 1 wc, scv ta na p q tc nc, .slice ro m rc] w fun e w' => e = .returned (.tuple #[va rk rn rm rb, .int .i64 re]) ∧ Below w.heap.size w w' := by
  obtain ⟨w0, hw0, bn, bs, br0, Bw⟩ := node_boxes w ⟨xo, xt, xn, ⟨vk, vn, vm, vb⟩, xa⟩ (.slice ta p tc) (.slice na q nc)
  have n0 := bn.at 0
  have n1 := bn.at 1
  have n2 := bn.at 2
  have n3 := bn.at 3
  have n4 := bn.at 4
  have n5 := bn.at 5
  have n6 := bn.at 6
  have n7 := bn.at 7
  have ln := bn.lt
  have s0 := bs.at 0
  have s1 := bs.at 1
  have ls := bs.lt
  have HB : Hid (Below w.heap.size w w0) := Bw
  have HX : Hid (Box w0 (w.heap.size + 1 + 1) nul) := br0
  clear bn bs br0 Bw
  go_enter Tryz.func49, Tryz.ntmps49
  go_upto_region 1 with fail
  rw [← hw0]
  clear hw0
  subst hwo
  have br := HX.out
  have lt1 := br.lt
  obtain ⟨r0, r1, r2, r3⟩ := br.at4
  dsimp only [nul] at r0 r1 r2 r3
  simp only [Nat.zero_add] at r1 r2 r3
  have f0 := br.free 0
  have f1 := br.free 1
  have f2 := br.free 2
  have f3 := br.free 3
  obtain ⟨c0, c1, c2, c3⟩ := h4.later HB.out
  have hg := (h4.later HB.out).lt
  have hg' := h4.lt
  have z0 : IntKind.i64.wrap 0 = 0 := by rw [IntKind.wrap_i64]; rfl
  have z1 : IntKind.i64.wrap 1 = 1 := by rw [IntKind.wrap_i64]; rfl
  have nb : ¬ w.heap.size + 1 + 1 = bk := by omega
  have nb' : ¬ bk = w.heap.size + 1 + 1 := by omega
  dsimp only at c0 c1 c2 c3
  clear br h4 s0 s1 ls n1 n2 n3 n4 n5 n6 n7
  go_wp2_with fail
  go_region_held2 (fun W => W.cell? ⟨bk, off, none⟩ = some (.int .i64 ak) ∧ W.cell? ⟨bk, off + 1, none⟩ = some (.int .i64 an) ∧ W.cell? ⟨bk, off + 2, none⟩ = some (.int .i64 am) ∧ W.cell? ⟨bk, off + 3, none⟩ = some (.string ⟨ab.toArray⟩) ∧ W.cell? ⟨w.heap.size, 0, none⟩ = some (.int .i64 xo)) (simp (maxDischargeDepth := 12) [go_sem, c0, c1, c2, c3, n0, ln, hg]) ((go_at_call 90; refine (F _ (below_trans HB.out (Grown.below (by repeat (first | assumption | exact Grown.refl _ | apply Grown.drew | apply Grown.drewN | apply Grown.alloc | apply Grown.more | apply Grown.drawTo))))).mono ?_; rintro e w2 ⟨rfl, bc⟩; obtain ⟨osc, dc, rfl⟩ := wide bc; clear bc))
  all_goals go_wp2
  all_goals refine bodyPost_ret_by (v := .tuple #[va rk rn rm rb, .int .i64 re]) ?_ rfl ⟨rfl, ?_⟩
  · simp [results, Tryz.results49, go_sem, r0, r1, r2, r3, lt1]
  · exact below_trans (res_kept (q := w.heap.size + 1 + 1) HB.out (by omega) _ _ _ _) (Grown.below (by repeat (first | assumption | exact Grown.refl _ | apply Grown.drew | apply Grown.drewN | apply Grown.alloc | apply Grown.more | apply Grown.drawTo)))

set_option maxRecDepth 20000 in
set_option maxHeartbeats 4000000 in
theorem stp_two (xo : Int) (xt xn vb : List UInt8) (vk vn vm xa : Int) (wo ta na ro : Option Addr) (wc tc nc rc p q m : Nat) (w : World) (bk off : Nat) (ak an am : Int) (ab : List UInt8) (ck cn cm : Int) (cb : List UInt8) (hwo : wo = some ⟨bk, off, none⟩) (h4 : At4 w bk off ⟨ak, an, am, ab⟩) (g4 : At4 w bk (off + 4) ⟨ck, cn, cm, cb⟩) (o1 : (xo == 1) = false) (o2 : (xo == 2) = false) (o19 : (xo == 19) = false) (rk rn rm re : Int) (rb : ByteArray) (F : Tells 44 #[.int .i64 xo, va ak an am ⟨ab.toArray⟩, va ck cn cm ⟨cb.toArray⟩] w (.tuple #[va rk rn rm rb, .int .i64 re])) :
    Calls Tryz.prog 49 #[.agg #[.int .i64 xo, .string ⟨xt.toArray⟩, .string ⟨xn.toArray⟩, .int .i64 vk, .int .i64 vn, .int .i64 vm, .string ⟨vb.toArray⟩, .int .i64 xa], .slice wo 2 wc, scv ta na p q tc nc, .slice ro m rc] w fun e w' => e = .returned (.tuple #[va rk rn rm rb, .int .i64 re]) ∧ Below w.heap.size w w' := by
  obtain ⟨w0, hw0, bn, bs, br0, Bw⟩ := node_boxes w ⟨xo, xt, xn, ⟨vk, vn, vm, vb⟩, xa⟩ (.slice ta p tc) (.slice na q nc)
  have n0 := bn.at 0
  have n1 := bn.at 1
  have n2 := bn.at 2
  have n3 := bn.at 3
  have n4 := bn.at 4
  have n5 := bn.at 5
  have n6 := bn.at 6
  have n7 := bn.at 7
  have ln := bn.lt
  have s0 := bs.at 0
  have s1 := bs.at 1
  have ls := bs.lt
  have HB : Hid (Below w.heap.size w w0) := Bw
  have HX : Hid (Box w0 (w.heap.size + 1 + 1) nul) := br0
  clear bn bs br0 Bw
  go_enter Tryz.func49, Tryz.ntmps49
  go_upto_region 1 with fail
  rw [← hw0]
  clear hw0
  subst hwo
  have br := HX.out
  have lt1 := br.lt
  obtain ⟨r0, r1, r2, r3⟩ := br.at4
  dsimp only [nul] at r0 r1 r2 r3
  simp only [Nat.zero_add] at r1 r2 r3
  have f0 := br.free 0
  have f1 := br.free 1
  have f2 := br.free 2
  have f3 := br.free 3
  obtain ⟨c0, c1, c2, c3⟩ := h4.later HB.out
  have hg := (h4.later HB.out).lt
  have hg' := h4.lt
  obtain ⟨d0, d1, d2, d3⟩ := g4.later HB.out
  have z0 : IntKind.i64.wrap 0 = 0 := by rw [IntKind.wrap_i64]; rfl
  have z1 : IntKind.i64.wrap 1 = 1 := by rw [IntKind.wrap_i64]; rfl
  have nb : ¬ w.heap.size + 1 + 1 = bk := by omega
  have nb' : ¬ bk = w.heap.size + 1 + 1 := by omega
  dsimp only at c0 c1 c2 c3 d0 d1 d2 d3
  clear br h4 g4 s0 s1 ls n1 n2 n3 n4 n5 n6 n7
  go_wp2_with fail
  go_region_held2 (fun W => W.cell? ⟨bk, off, none⟩ = some (.int .i64 ak) ∧ W.cell? ⟨bk, off + 1, none⟩ = some (.int .i64 an) ∧ W.cell? ⟨bk, off + 2, none⟩ = some (.int .i64 am) ∧ W.cell? ⟨bk, off + 3, none⟩ = some (.string ⟨ab.toArray⟩) ∧ W.cell? ⟨bk, off + 4, none⟩ = some (.int .i64 ck) ∧ W.cell? ⟨bk, off + 4 + 1, none⟩ = some (.int .i64 cn) ∧ W.cell? ⟨bk, off + 4 + 2, none⟩ = some (.int .i64 cm) ∧ W.cell? ⟨bk, off + 4 + 3, none⟩ = some (.string ⟨cb.toArray⟩) ∧ W.cell? ⟨w.heap.size, 0, none⟩ = some (.int .i64 xo)) (simp (maxDischargeDepth := 12) [go_sem, c0, c1, c2, c3, d0, d1, d2, d3, n0, ln, hg]) ((go_at_call 44; refine (F _ (below_trans HB.out (Grown.below (by repeat (first | assumption | exact Grown.refl _ | apply Grown.drew | apply Grown.drewN | apply Grown.alloc | apply Grown.more | apply Grown.drawTo))))).mono ?_; rintro e w2 ⟨rfl, bc⟩; obtain ⟨osc, dc, rfl⟩ := wide bc; clear bc))
  all_goals go_wp2
  all_goals refine bodyPost_ret_by (v := .tuple #[va rk rn rm rb, .int .i64 re]) ?_ rfl ⟨rfl, ?_⟩
  · simp [results, Tryz.results49, go_sem, r0, r1, r2, r3, lt1]
  · exact below_trans (res_kept (q := w.heap.size + 1 + 1) HB.out (by omega) _ _ _ _) (Grown.below (by repeat (first | assumption | exact Grown.refl _ | apply Grown.drew | apply Grown.drewN | apply Grown.alloc | apply Grown.more | apply Grown.drawTo)))
end Go.Proofs.YtclhmmgdhagloaaGreatDoor

namespace Go.Proofs.YtclhmmgdhagloaaGreatDoor
open Go.RowKit Go.Shelf

theorem stp_any (x : Nd) (wo ta na ro : Option Addr) (wc tc nc rc : Nat) (of : List Va) (ts ns : List (List UInt8)) (row : List Va) (w : World) (hT : Tabs w) (hP : Pw w) (hw : Vs w wo of) (ht : Sl w ta ts) (hn : Sl w na ns) (hr : Vs w ro row) (hlen : ns.length = row.length) (hl : row.length ≤ 140737488351232) (hm : mayN x = true) (ho : (of.length : Int) = opsN x) (hi : ∀ v ∈ of, vin v) :
    Calls Tryz.prog 49 #[ndv x, .slice wo of.length wc, scv ta na ts.length ns.length tc nc, .slice ro row.length rc] w fun e w' => e = .returned (rs (stpR x of ts ns row)) ∧ Below w.heap.size w w' := by
  have hops := mayN_ops x hm
  have hfit : fitN x = true := by unfold mayN at hm; rw [Bool.and_eq_true] at hm; exact hm.2
  have CV : Tells 89 #[ndv x, scv ta na ts.length ns.length tc nc, .slice ro row.length rc] w (rs (colR x ts ns row)) := fun W h => colv_any x ta na ro tc nc rc ts ns row W (ht.later h) (hn.later h) (hr.later h) hlen hl
  obtain ⟨xo, xt, xn, ⟨vk, vn, vm, vb⟩, xa⟩ := x
  unfold stpR
  simp only
  by_cases h1 : xo = 1
  · subst h1
    rw [if_pos rfl]
    exact stp_val xt xn vb vk vn vm xa wo ta na ro wc tc nc rc ts.length ns.length row.length of.length w
  rw [if_neg h1]
  by_cases h2 : xo = 2
  · subst h2
    rw [if_pos rfl]
    rcases hc : colR ⟨2, xt, xn, ⟨vk, vn, vm, vb⟩, xa⟩ ts ns row with ⟨⟨rk, rn, rm, rb⟩, re⟩
    rw [hc] at CV
    exact stp_col xt xn vb vk vn vm xa wo ta na ro wc tc nc rc ts.length ns.length row.length of.length w rk rn rm re ⟨rb.toArray⟩ CV
  rw [if_neg h2]
  clear CV
  by_cases h19 : xo = 19
  · subst h19
    rw [if_pos rfl]
    have F : Tells 46 #[.string ⟨xn.toArray⟩, .slice wo of.length wc] w (rs (funR xn of)) := fun W h => qfunction_any xn wo wc of W (hT.later h) (hP.below h) (hw.later h) (by unfold opsN at hops ho; simp at hops ho; omega) hi
    rcases hc : funR xn of with ⟨⟨rk, rn, rm, rb⟩, re⟩
    rw [hc] at F
    exact stp_fun xt xn vb vk vn vm xa wo ta na ro wc tc nc rc ts.length ns.length row.length of.length w rk rn rm re ⟨rb.toArray⟩ F
  rw [if_neg h19]
  have o1 : (xo == 1) = false := by rw [beq_eq_false_iff_ne]; exact h1
  have o2 : (xo == 2) = false := by rw [beq_eq_false_iff_ne]; exact h2
  have o19 : (xo == 19) = false := by rw [beq_eq_false_iff_ne]; exact h19
  have hx3 : 3 ≤ xo := by
    unfold fitN at hfit
    simp only [h1, h2, h19, if_false, Bool.and_eq_true, decide_eq_true_eq] at hfit
    exact hfit.1
  unfold opsN at ho
  simp only [h19, if_false, hx3, if_true] at ho
  match of, hw, hi, ho with
  | [], _, _, ho => simp at ho; split at ho <;> omega
  | [a], hw, hi, _ =>
    rw [if_pos (show [a].length = 1 from rfl)]
    obtain ⟨b, off, rfl, hc⟩ := hw (by simp)
    have h4 : At4 w b off a := by have := hc 0 (by simp); simpa using this
    have F : Tells 90 #[.int .i64 xo, vv a] w (rs (unR xo a)) := fun W h => qun_any xo a W (hT.later h) (hP.below h) (hi a (by simp))
    show Calls _ _ _ _ fun e w' => e = .returned (rs (unR xo a)) ∧ _
    rcases hu : unR xo a with ⟨⟨rk, rn, rm, rb⟩, re⟩
    rw [hu] at F
    obtain ⟨ak, an, am, ab⟩ := a
    exact stp_one xo xt xn vb vk vn vm xa _ ta na ro wc tc nc rc ts.length ns.length row.length w b off ak an am ab rfl h4 o1 o2 o19 rk rn rm re ⟨rb.toArray⟩ F
  | [a, c], hw, hi, _ =>
    rw [if_neg (show ¬ [a, c].length = 1 by simp)]
    obtain ⟨b, off, rfl, hc⟩ := hw (by simp)
    have h4 : At4 w b off a := by have := hc 0 (by simp); simpa using this
    have g4 : At4 w b (off + 4) c := by have := hc 1 (by simp); simpa using this
    have F : Tells 44 #[.int .i64 xo, vv a, vv c] w (rs (binR xo a c)) := fun W h => qbin_any xo a c W (hT.later h) (hP.below h) (hi a (by simp)) (hi c (by simp))
    show Calls _ _ _ _ fun e w' => e = .returned (rs (binR xo a c)) ∧ _
    rcases hu : binR xo a c with ⟨⟨rk, rn, rm, rb⟩, re⟩
    rw [hu] at F
    obtain ⟨ak, an, am, ab⟩ := a
    obtain ⟨ck, cn, cm, cb⟩ := c
    exact stp_two xo xt xn vb vk vn vm xa _ ta na ro wc tc nc rc ts.length ns.length row.length w b off ak an am ab ck cn cm cb rfl h4 g4 o1 o2 o19 rk rn rm re ⟨rb.toArray⟩ F
  | _ :: _ :: _ :: _, _, _, ho => simp at ho; split at ho <;> omega
end Go.Proofs.YtclhmmgdhagloaaGreatDoor

namespace Go.Proofs.YtclhmmgdhagloaaGreatDoor
open Go.RowKit Go.Shelf

abbrev vcs (v : Va) : Array Value := #[.int .i64 v.k, .int .i64 v.n, .int .i64 v.m, .string ⟨v.b.toArray⟩]
def vcells (l : List Va) : List Value := l.flatMap fun v => (vcs v).toList
theorem vcells_len (l : List Va) : (vcells l).length = l.length * 4 := by
  induction l with
  | nil => rfl
  | cons a l ih =>
    have e : vcells (a :: l) = (vcs a).toList ++ vcells l := by simp [vcells]
    rw [e, List.length_append, ih, List.length_cons]
    simp
    omega
theorem vcells_app (l r : List Va) : vcells (l ++ r) = vcells l ++ vcells r := by simp [vcells]
theorem vcells_at (x : List Va) : ∀ (i j : Nat) (hi : i < x.length), j < 4 → (vcells x)[i * 4 + j]? = (vcs x[i])[j]? := by
  induction x with
  | nil => intro i j hi; simp at hi
  | cons t x ih =>
    intro i j hi hj
    have e : vcells (t :: x) = (vcs t).toList ++ vcells x := by simp [vcells]
    rw [e]
    cases i with
    | zero =>
      rw [List.getElem?_append_left (by simpa using hj)]
      simp
    | succ i =>
      rw [List.getElem?_append_right (by simp; omega)]
      simp at hi
      have := ih i j hi hj
      simp only [List.getElem_cons_succ]
      rw [← this]
      congr 1
      simp; omega
theorem vcells_take (l : List Va) (f : Nat) (h : f ≤ l.length) : (vcells l).take (f * 4) = vcells (l.take f) := by
  have e : vcells l = vcells (l.take f) ++ vcells (l.drop f) := by rw [← vcells_app, List.take_append_drop]
  rw [e, List.take_append_of_le_length (by rw [vcells_len, List.length_take]; omega), List.take_of_length_le (by rw [vcells_len, List.length_take]; omega)]
theorem one_va (v : Va) : ∀ u ∈ (vcs v).toList, u.oneCell' = true := by
  intro u hu
  simp at hu
  rcases hu with rfl | rfl | rfl | rfl <;> rfl

/-- A stack of values of one's own. -/
abbrev Vk (w : World) (base : Nat) (v : Value) (st : List Va) : Prop := w.ownsRow base 42 4 v st.length (vcells st)
theorem Vk.shape {w : World} {base : Nat} {v : Value} {st : List Va} (h : Vk w base v st) :
    ∃ ao cap, v = .slice ao st.length cap ∧ st.length ≤ cap ∧ (ao = none → st = [] ∧ cap = 0) ∧ (∀ f, f ≤ st.length → Vk w base (.slice ao f cap) (st.take f)) ∧ (∀ a, ao = some a → ∃ g, a = ⟨g, 0, none⟩ ∧ base ≤ g ∧ g < w.heap.size ∧ ∀ i (h : i < st.length), At4 w g (i * 4) st[i]) := by
  obtain ⟨h1, h2⟩ := h
  rcases h2 with ⟨rfl, hn⟩ | ⟨g, cap, cur, rfl, hb, hg, hnc, hcm, hcs, htake⟩
  · have : st = [] := List.length_eq_zero_iff.1 hn
    subst this
    exact ⟨none, 0, rfl, Nat.le_refl _, fun _ => ⟨rfl, rfl⟩, fun f hf => by simp at hf; subst hf; exact World.ownsRow_nil _ _ _ _, fun a ha => by cases ha⟩
  · refine ⟨some ⟨g, 0, none⟩, cap, rfl, hnc, (fun h => by cases h), fun f hf => ?_, fun a ha => ?_⟩
    · have e : (st.take f).length = f := by rw [List.length_take]; omega
      show w.ownsRow base _ 4 _ (st.take f).length _
      rw [e]
      refine ⟨by rw [vcells_len, e], .inr ⟨g, cap, cur, rfl, hb, hg, by omega, hcm, hcs, ?_⟩⟩
      have : cur.toList.take (f * 4) = (cur.toList.take (st.length * 4)).take (f * 4) := by rw [List.take_take, Nat.min_eq_left (by omega)]
      rw [this, htake, vcells_take st f hf]
    · cases ha
      have hlt : g < w.heap.size := by
        rcases Nat.lt_or_ge g w.heap.size with h | h
        · exact h
        · rw [Array.getElem?_eq_none h] at hg; cases hg
      refine ⟨g, rfl, hb, hlt, fun i hi => ?_⟩
      have hc : ∀ j, j < 4 → w.cell? ⟨g, i * 4 + j, none⟩ = (vcs st[i])[j]? := by
        intro j hj
        rw [← vcells_at st i j hi hj, cell_of_row w g (i * 4 + j) cur _ (0, 0) hg, ← htake]
        rw [List.getElem?_take, if_pos (by omega)]
        simp
      exact ⟨hc 0 (by decide), hc 1 (by decide), hc 2 (by decide), hc 3 (by decide)⟩
theorem Vk.push {w : World} {base n : Nat} {d : Va} {v : Value} {st : List Va} (hl : st.length = n) (h : w.ownsRow base 42 4 v (n + 1) (vcells st ++ (vcs d).toList)) : Vk w base v (st ++ [d]) := by
  subst hl
  show w.ownsRow _ _ _ _ (st ++ [d]).length (vcells (st ++ [d]))
  have e1 : (st ++ [d]).length = st.length + 1 := by simp
  have e2 : vcells (st ++ [d]) = vcells st ++ (vcs d).toList := by rw [vcells_app]; simp [vcells]
  rw [e1, e2]
  exact h
theorem Vk.later {w w' : World} {base : Nat} {v : Value} {st : List Va} (h : Vk w base v st) (hb : Below w.heap.size w w') : Vk w' base v st :=
  World.ownsRow.kept (row := none) h ⟨hb.os, hb.tape, hb.output, hb.size, fun k hk _ => hb.block k hk⟩ (by
    cases hv : v.ownBlock with
    | none => exact .inl rfl
    | some k => exact .inr (by simp))
theorem At4.grown {w w' : World} {p o : Nat} {v : Va} {row : Option Nat} (h : At4 w p o v) (hg : w.grownBy w' row) (hne : some p ≠ row) : At4 w' p o v := by
  have hl := h.lt
  obtain ⟨h0, h1, h2, h3⟩ := h
  exact ⟨(hg.cell_far ⟨p, o, none⟩ hl hne).trans h0, (hg.cell_far ⟨p, o + 1, none⟩ hl hne).trans h1, (hg.cell_far ⟨p, o + 2, none⟩ hl hne).trans h2, (hg.cell_far ⟨p, o + 3, none⟩ hl hne).trans h3⟩
/-- Where an expression is right, each node finds what it is done with. -/
theorem runD_one {x : Nd} {l : List Nd} {st r : List Nat} (h : runD mayN (x :: l) st = some r) : mayN x = true ∧ opsN x ≤ (st.length : Int) ∧ ∃ st', st'.length = st.length - (opsN x).toNat + 1 ∧ runD mayN l st' = some r := by
  unfold runD at h
  cases hs : stepD mayN st x with
  | none => rw [hs] at h; cases h
  | some st' =>
    rw [hs] at h
    unfold stepD at hs
    split at hs
    case isFalse => cases hs
    case isTrue hc =>
      refine ⟨hc.1, hc.2, st', ?_, h⟩
      cases hs
      rw [List.length_append, List.length_take]
      simp
theorem dep_one {l : List Nd} (h : 0 < depN mayN l) : l.length ≤ 256 ∧ ∃ d, runD mayN l [] = some [d] := by
  unfold depN at h
  split at h
  case isFalse => omega
  case isTrue hl =>
    refine ⟨hl, ?_⟩
    unfold depO at h
    split at h
    · exact ⟨_, by assumption⟩
    · omega
end Go.Proofs.YtclhmmgdhagloaaGreatDoor

namespace Go.Proofs.YtclhmmgdhagloaaGreatDoor
open Go.RowKit Go.Shelf
attribute [local go_sem] cell?_more frozen?_more setCell_more more_lt more_more more_drew more_drewN setCell_drewN alloc_drewN

theorem findS_more (t n : List UInt8) (l : List (List UInt8 × List UInt8)) (i p c : Nat) : c ≤ (findS t n l i p c).2 := by
  rcases findS_at t n l i p c with ⟨_, h⟩ | ⟨h, _⟩ <;> omega

set_option maxRecDepth 20000 in
set_option maxHeartbeats 4000000 in
theorem rfind_any (ta na : Option Addr) (tc nc : Nat) (ts ns : List (List UInt8)) (t n : List UInt8) (w : World) (ht : Sl w ta ts) (hn : Sl w na ns) (hl : ns.length ≤ 140737488351232) :
    Calls Tryz.prog 25 #[scv ta na ts.length ns.length tc nc, .string ⟨t.toArray⟩, .string ⟨n.toArray⟩] w fun e w' => e = .returned (.tuple #[.int .i64 ((findR ts ns t n).1 : Int), .int .i64 (findR ts ns t n).2]) ∧ Below w.heap.size w w' := by
  unfold findR
  by_cases hne : ts.length = ns.length
  case neg =>
    rw [if_neg hne]
    clear ht hn hl
    generalize ts.length = p at *
    generalize ns.length = q at *
    have h1 : ¬ (p : Int) = (q : Int) := by omega
    go_enter Tryz.func25, Tryz.ntmps25
    go_wp2
    refine bodyPost_ret_by (v := .tuple #[.int .i64 0, .int .i64 1]) ?_ rfl ⟨rfl, (Below.refl _ _).alloc (Nat.le_refl _) _⟩
    simp [results, Tryz.results25, go_sem]
  rw [if_pos hne]
  obtain ⟨R, hR⟩ : ∃ R, R = findS t n (ts.zip ns) 0 0 0 := ⟨_, rfl⟩
  rw [← hR]
  have HR : Hid (findS t n ((ts.zip ns).drop 0) 0 0 0 = R) := hR.symm
  clear hR
  obtain ⟨m, hm⟩ : ∃ m, ns.length = m := ⟨_, rfl⟩
  have HM : Hid (ns.length = m) := hm
  have HT : Hid (ts.length = m) := by show _ = _; omega
  rw [show ts.length = m from HT.out, hm]
  rw [hm] at hl
  have BX : Cbox (w.alloc (.cells #[.slice ta m tc, .slice na m nc] 47)) w.heap.size #[.slice ta m tc, .slice na m nc] 47 := Cbox.new w _ _
  have A1 : Below w.heap.size w (w.alloc (.cells #[.slice ta m tc, .slice na m nc] 47)) := (Below.refl _ _).alloc (Nat.le_refl _) _
  clear hm hne
  obtain ⟨TB, hTB⟩ : ∃ TB : ByteArray, TB = ⟨t.toArray⟩ := ⟨_, rfl⟩
  obtain ⟨NB, hNB⟩ : ∃ NB : ByteArray, NB = ⟨n.toArray⟩ := ⟨_, rfl⟩
  have HTB : Hid (TB.toList = t) := by show _ = _; rw [hTB, ByteArray.toList_eq]
  have HNB : Hid (NB.toList = n) := by show _ = _; rw [hNB, ByteArray.toList_eq]
  rw [← hTB, ← hNB]
  clear hTB hNB
  go_enter Tryz.func25, Tryz.ntmps25
  go_wp2
  go_loopw [8, 9] (fun r8 r9 wr => ∃ k p c : Nat, ∃ z : Int, r8 = .int .i64 z ∧ ((c = 0 ∧ z = -1) ∨ (c = 1 ∧ z = (p : Int))) ∧ p ≤ k ∧ r9 = .int .i64 (k : Int) ∧ k ≤ m ∧ wr = (w.alloc (.cells #[.slice ta m tc, .slice na m nc] 47)) ∧ Hid (findS t n ((ts.zip ns).drop k) k p c = R)) (fun _ r _ => m - (intOf r).toNat)
  case atStart => exact ⟨0, 0, 0, -1, rfl, .inl ⟨rfl, rfl⟩, Nat.zero_le _, rfl, Nat.zero_le _, rfl, HR⟩
  case round =>
    obtain ⟨k, p, c, z, rfl, hcz, hpk, rfl, hk, rfl, hH⟩ := hrel
    have z0 := BX.at 0
    have z1 := BX.at 1
    have zl := BX.lt
    by_cases hlt : k < m
    · have hlt' : (k : Int) < (m : Int) := by omega
      have k0 : (0 : Int) ≤ (k : Int) := by omega
      have hkn : k < ns.length := by rw [HM.out]; exact hlt
      have hkt : k < ts.length := by rw [HT.out]; exact hlt
      obtain ⟨nb, noff, rfl, hcn⟩ := (hn.later A1) (by omega)
      obtain ⟨tb, toff, rfl, hct⟩ := (ht.later A1) (by omega)
      have cn := hcn k hkn
      have ct := hct k hkt
      have gn := World.block_lt_of_cell? _ _ cn
      have gt := World.block_lt_of_cell? _ _ ct
      have hzl : k < (ts.zip ns).length := by rw [List.length_zip]; omega
      have hdr : (ts.zip ns).drop k = (ts[k], ns[k]) :: (ts.zip ns).drop (k + 1) := by rw [List.drop_eq_getElem_cons hzl, List.getElem_zip]
      have hst := hH.out
      rw [hdr] at hst
      unfold findS at hst
      obtain ⟨SN, hSN⟩ : ∃ SN : ByteArray, SN = ⟨ns[k].toArray⟩ := ⟨_, rfl⟩
      obtain ⟨ST, hST⟩ : ∃ ST : ByteArray, ST = ⟨ts[k].toArray⟩ := ⟨_, rfl⟩
      have e1 : SN.toList = ns[k] := by rw [hSN, ByteArray.toList_eq]
      have e2 : ST.toList = ts[k] := by rw [hST, ByteArray.toList_eq]
      rw [← hSN] at cn
      rw [← hST] at ct
      rw [← e1, ← e2, ← HNB.out, ← HTB.out] at hst
      simp only at gn gt
      have HS : Hid ((if SN.toList = NB.toList ∧ (TB.toList = [] ∨ ST.toList = TB.toList) then findS TB.toList NB.toList ((ts.zip ns).drop (k + 1)) (k + 1) k (c + 1) else findS TB.toList NB.toList ((ts.zip ns).drop (k + 1)) (k + 1) p c) = R) := hst
      have HB : Hid (Below w.heap.size w (w.alloc (.cells #[.slice (some ⟨tb, toff, none⟩) m tc, .slice (some ⟨nb, noff, none⟩) m nc] 47))) := A1
      have HCZ : Hid ((c = 0 ∧ z = -1) ∨ (c = 1 ∧ z = (p : Int))) := hcz
      clear hcn hct hdr hst hH hSN hST e1 e2 HR A1 BX hn ht hzl hcz
      by_cases q1 : SN.toList = NB.toList
      · have q1' : (SN.toList == NB.toList) = true := by rw [beq_iff_eq]; exact q1
        by_cases q23 : TB.toList = [] ∨ ST.toList = TB.toList
        · have HF : Hid (findS t n ((ts.zip ns).drop (k + 1)) (k + 1) k (c + 1) = R) := by have := HS.out; rw [if_pos ⟨q1, q23⟩, HTB.out, HNB.out] at this; exact this
          clear HS
          by_cases q2 : TB.toList = []
          · have q2' : TB.toList.isEmpty = true := by rw [List.isEmpty_iff]; exact q2
            rcases HCZ.out with ⟨rfl, rfl⟩ | ⟨rfl, rfl⟩
            · clear q1 q2 q23 HCZ
              go_wp2
              exact ⟨⟨k + 1, k, 1, (k : Int), rfl, .inr ⟨rfl, rfl⟩, by omega, by simp, by omega, (by first | trivial | rfl), HF⟩, by simp [intOf]; omega⟩
            · have hp0 : (0 : Int) ≤ (p : Int) := by omega
              have HN1 : Hid (¬ R.2 = 1) := by
                have := findS_more t n ((ts.zip ns).drop (k + 1)) (k + 1) k (1 + 1)
                rw [HF.out] at this
                intro h
                omega
              clear q1 q2 q23 HCZ
              go_wp2
              refine bodyPost_ret_by (v := .tuple #[.int .i64 0, .int .i64 34]) ?_ rfl ⟨by first | rfl | (rw [if_neg HN1.out]; rfl), HB.out⟩
              simp [results, Tryz.results25, go_sem]
          · have q2' : TB.toList.isEmpty = false := by rw [← Bool.not_eq_true, List.isEmpty_iff]; exact q2
            have q3' : (ST.toList == TB.toList) = true := by rw [beq_iff_eq]; rcases q23 with h | h; exact absurd h q2; exact h
            rcases HCZ.out with ⟨rfl, rfl⟩ | ⟨rfl, rfl⟩
            · clear q1 q2 q23 HCZ
              go_wp2
              exact ⟨⟨k + 1, k, 1, (k : Int), rfl, .inr ⟨rfl, rfl⟩, by omega, by simp, by omega, (by first | trivial | rfl), HF⟩, by simp [intOf]; omega⟩
            · have hp0 : (0 : Int) ≤ (p : Int) := by omega
              have HN1 : Hid (¬ R.2 = 1) := by
                have := findS_more t n ((ts.zip ns).drop (k + 1)) (k + 1) k (1 + 1)
                rw [HF.out] at this
                intro h
                omega
              clear q1 q2 q23 HCZ
              go_wp2
              refine bodyPost_ret_by (v := .tuple #[.int .i64 0, .int .i64 34]) ?_ rfl ⟨by first | rfl | (rw [if_neg HN1.out]; rfl), HB.out⟩
              simp [results, Tryz.results25, go_sem]
        · have q2' : TB.toList.isEmpty = false := by rw [← Bool.not_eq_true, List.isEmpty_iff]; exact fun h => q23 (.inl h)
          have q3' : (ST.toList == TB.toList) = false := by rw [beq_eq_false_iff_ne]; exact fun h => q23 (.inr h)
          have HF : Hid (findS t n ((ts.zip ns).drop (k + 1)) (k + 1) p c = R) := by have := HS.out; rw [if_neg (fun h => q23 h.2), HTB.out, HNB.out] at this; exact this
          clear q1 q23 HS
          go_wp2
          exact ⟨⟨k + 1, p, c, z, rfl, HCZ.out, by omega, by simp, by omega, (by first | trivial | rfl), HF⟩, by simp [intOf]; omega⟩
      · have q1' : (SN.toList == NB.toList) = false := by rw [beq_eq_false_iff_ne]; exact q1
        have HF : Hid (findS t n ((ts.zip ns).drop (k + 1)) (k + 1) p c = R) := by have := HS.out; rw [if_neg (fun h => q1 h.1), HTB.out, HNB.out] at this; exact this
        clear q1 HS
        go_wp2
        exact ⟨⟨k + 1, p, c, z, rfl, HCZ.out, by omega, by simp, by omega, (by first | trivial | rfl), HF⟩, by simp [intOf]; omega⟩
    · have hlt' : ¬ (k : Int) < (m : Int) := by omega
      have hRR : (p, c) = R := by
        have := hH.out
        rw [List.drop_eq_nil_of_le (by rw [List.length_zip, HM.out, HT.out]; omega)] at this
        exact this
      subst hRR
      have HB : Hid (Below w.heap.size w (w.alloc (.cells #[.slice ta m tc, .slice na m nc] 47))) := A1
      clear hH HR A1 BX hn ht
      rcases hcz with ⟨rfl, rfl⟩ | ⟨rfl, rfl⟩
      · go_wp2
        refine bodyPost_ret_by (v := .tuple #[.int .i64 0, .int .i64 34]) ?_ rfl ⟨rfl, HB.out⟩
        simp [results, Tryz.results25, go_sem]
      · have hp0 : ¬ (p : Int) < 0 := by omega
        go_wp2
        refine bodyPost_ret_by (v := .tuple #[.int .i64 (p : Int), .int .i64 0]) ?_ rfl ⟨rfl, HB.out⟩
        simp [results, Tryz.results25, go_sem]
end Go.Proofs.YtclhmmgdhagloaaGreatDoor

namespace Go.Proofs.YtclhmmgdhagloaaGreatDoor
open Go.RowKit Go.Shelf

section
variable {P : Program} {w : World}

theorem run_append_from_at (base : Nat) (t tx ty e : TypeId) (i : TypeInfo) (z : Value) (size bytes : Nat) (ht : P.underlying t = some (.slice e)) (hi : P.info? e = some i) (hz : i.zero = some z)
    (hsize : i.size = size) (hby : i.bytes = bytes) (hzs : z.cells.size = size)
    (v : Value) (n : Nat) (xs : List Value) (hown : w.ownsRow base e size v n xs) (x : Value) (m : Nat) (news : List Value) (hs : Src P size tx x m news w)
    (h63 : n + m ≤ maxLen) (hbytes : (n + m) * bytes ≤ 140737488355328) (hbase : base ≤ w.heap.size) :
    ∃ v' w', (Builtin.append_ #[t, tx] ty #[v, x]).run P w = .ok v' w' ∧ w'.ownsRow base e size v' (n + m) (xs ++ news) ∧ w.grownBy w' v.ownBlock ∧ (v'.ownBlock = v.ownBlock ∨ v'.ownBlock = some w.heap.size) := by
  subst hsize
  subst hby
  have hl := hs.newsLen
  have hsmall : n + m ≤ 9223372036854775807 := by simp only [maxLen] at h63; omega
  have hlen : (xs ++ news).length = (n + m) * i.size := by rw [List.length_append, hown.1, hl, Nat.add_mul]
  have grown : ∀ (old : Nat), old < n + m → ∀ (row : Option Nat),
      (w.drew.alloc (.cells ((xs ++ news).toArray ++ Builtin.zeroCells z.cells (grownCap w (n + m) old e - (n + m))) e)).ownsRow base e i.size
        (.slice (some ⟨w.heap.size, 0, none⟩) (n + m) (grownCap w (n + m) old e)) (n + m) (xs ++ news) ∧
      w.grownBy (w.drew.alloc (.cells ((xs ++ news).toArray ++ Builtin.zeroCells z.cells (grownCap w (n + m) old e - (n + m))) e)) row := by
    intro old ho row
    have hge := grownCap_ge w (n + m) old e
    have hcm : grownCap w (n + m) old e ≤ maxLen := grownCap_le_maxLen w (n + m) old e h63
    refine ⟨⟨hlen, .inr ⟨w.heap.size, _, _, rfl, hbase, heap_alloc_new w.drew _, hge, hcm, ?_, ?_⟩⟩, ⟨rfl, rfl, rfl, by simp, fun k hk _ => Below.heap_alloc w.drew _ k hk⟩⟩
    · simp only [Array.size_append, List.size_toArray, size_zeroCells, hzs, hlen, ← Nat.add_mul]
      congr 1
      omega
    · simp only [Array.toList_append]
      rw [← hlen]
      exact List.take_left
  rcases hown.2 with ⟨rfl, rfl⟩ | ⟨g, cap, cur, rfl, hbg, hg, hnc, hcm, hcs, htake⟩
  · have hx : xs = [] := List.eq_nil_of_length_eq_zero (by simpa using hown.1)
    subst hx
    by_cases hm : m = 0
    · subst hm
      have hn : news = [] := List.eq_nil_of_length_eq_zero (by simpa using hl)
      subst hn
      have hcl := hs.cells
      refine ⟨.slice none 0 0, w, ?_, World.ownsRow_nil w base e i.size, ⟨rfl, rfl, rfl, Nat.le_refl _, fun _ _ _ => rfl⟩, .inl rfl⟩
      rcases hs.kind with ⟨e', hk⟩ | hk <;> simp [Builtin.append_, run_underlying ht, run_underlying hk, sizeOf, typeInfo, hi, hs.len, hcl]
    · have hr := run_append_grow_src (P := P) w t tx ty e i z ht hi hz none 0 0 [] (run_firstCells_none w.drew i.size 0 0 0) x m news hs (by omega) (by omega) (growslice_fits (by omega) hbytes)
      have hgr := grown 0 (by omega) (Value.ownBlock (.slice none 0 0))
      exact ⟨_, _, hr, hgr.1, hgr.2, .inr rfl⟩
  · by_cases hroom : n + m ≤ cap
    · have hfit : n * i.size + news.length ≤ cur.size := by rw [hl, hcs, ← Nat.add_mul]; exact Nat.mul_le_mul_right _ hroom
      have hr := run_append_room_from (P := P) t tx ty e i ht hi g n cap cur hg x m news hs hroom hfit
      refine ⟨_, _, hr, ⟨hlen, .inr ⟨g, cap, _, rfl, hbg, setRow_heap w g cur _ e _ hg, hroom, hcm, ?_, ?_⟩⟩, ⟨rfl, rfl, rfl, by simp, fun k _ hk => setRow_other w g k _ (fun e => hk (by simp [Value.ownBlock, e]))⟩, .inl rfl⟩
      · simp only [List.size_toArray, List.length_append, List.length_take, List.length_drop, Array.length_toList]
        omega
      · rw [htake, ← hlen]
        exact List.take_left
    · have holds : ∀ j u, xs[j]? = some u → w.drew.cell? ((⟨g, 0, none⟩ : Addr).add j) = some u := hown.cells (g := g) rfl
      have hr := run_append_grow_src (P := P) w t tx ty e i z ht hi hz (some ⟨g, 0, none⟩) n cap xs (run_firstCells_some w.drew i.size n ⟨g, 0, none⟩ n cap xs hown.1 holds) x m news hs (by omega) (by omega) (growslice_fits (by omega) hbytes)
      have hgr := grown cap (by omega) (Value.ownBlock (.slice (some ⟨g, 0, none⟩) n cap))
      exact ⟨_, _, hr, hgr.1, hgr.2, .inr rfl⟩

theorem step_append_from {ops : Array Oper} {o : Oper} {a : Act} {K : Act → World → Prop} {Q : Exit → Act → World → Prop} {E : Prop} (hgd : o.guard = none) (s x : Operand) (t tx : TypeId)
    (ho : o.op = .call { callee := .builtin .append, args := #[s, x], argTypes := #[t, tx] })
    (base : Nat) (e : TypeId) (i : TypeInfo) (z : Value) (size bytes : Nat) (ht : P.underlying t = some (.slice e)) (hi : P.info? e = some i) (hz : i.zero = some z)
    (hsize : i.size = size) (hby : i.bytes = bytes) (hzs : z.cells.size = size)
    (v : Value) (n : Nat) (xs : List Value) (hv : a.eval s = v) (hown : w.ownsRow base e size v n xs)
    (xv : Value) (m : Nat) (news : List Value) (hx : a.eval x = xv) (hs : Src P size tx xv m news w)
    (h63 : n + m ≤ maxLen) (hbytes : (n + m) * bytes ≤ 140737488355328) (hbase : base ≤ w.heap.size)
    (h : ∀ v' w', w'.ownsRow base e size v' (n + m) (xs ++ news) → w.grownBy w' v.ownBlock → (v'.ownBlock = v.ownBlock ∨ v'.ownBlock = some w.heap.size) → K (a.put o.dst v') w') :
    if Region.wanted o (yielded ops a.tmps) = true then Oper.wp P o a w K Q else E := by
  have hw : Region.wanted o (yielded ops a.tmps) = true := by simp [Region.wanted, hgd]
  rw [if_pos hw]
  obtain ⟨v', w', hr, h2, h3, h4⟩ := run_append_from_at (P := P) base t tx o.type e i z size bytes ht hi hz hsize hby hzs v n xs hown xv m news hs h63 hbytes hbase
  unfold Oper.wp execOp
  simp only [ho, resolve, invoke, builtin, Sem.run_bind, Sem.run_pure, Result.andThen_ok, List.map_toArray, List.map_cons, List.map_nil, hv, hx, hr]
  exact h v' w' h2 h3 h4
end

/-- Texts as cells. -/
def svT (ts : List (List UInt8)) : List Value := ts.map fun t => .string ⟨t.toArray⟩
theorem svT_len (ts : List (List UInt8)) : (svT ts).length = ts.length * 1 := by simp [svT]
theorem svT_one (ts : List (List UInt8)) : ∀ u ∈ svT ts, u.oneCell' = true := by
  intro u hu
  simp only [svT, List.mem_map] at hu
  obtain ⟨t, _, rfl⟩ := hu
  rfl
theorem src_of_sl {w : World} {ao : Option Addr} {cap : Nat} {l : List (List UInt8)} (h : Sl w ao l) (h0 : ao = none → l = []) : Src Tryz.prog 1 45 (.slice ao l.length cap) l.length (svT l) w := by
  cases ao with
  | none =>
    have := h0 rfl
    subst this
    exact Src.ofNil w Tryz.underlying45 cap
  | some a =>
    refine Src.ofSlice w Tryz.underlying45 a l.length cap (svT l) (svT_len l) (fun j u hu => ?_) (svT_one l)
    have hj : j < (svT l).length := (List.getElem?_eq_some_iff.1 hu).1
    rw [svT_len] at hj
    obtain ⟨b, off, e, hc⟩ := h (by omega)
    cases e
    rw [Addr.add_lit, hc j (by omega), ← hu]
    simp [svT, show j < l.length by omega]
theorem sl_of_own {w : World} {base : Nat} {v : Value} {l : List (List UInt8)} (h : w.ownsRow base 9 1 v l.length (svT l)) : ∃ ao cap, v = .slice ao l.length cap ∧ Sl w ao l := by
  obtain ⟨h1, h2⟩ := h
  rcases h2 with ⟨rfl, hn⟩ | ⟨g, cap, cur, rfl, hb, hg, hnc, hcm, hcs, htake⟩
  · have : l = [] := List.eq_nil_of_length_eq_zero hn
    subst this
    exact ⟨none, 0, rfl, fun h => by simp at h⟩
  · refine ⟨some ⟨g, 0, none⟩, cap, rfl, fun _ => ⟨g, 0, rfl, fun i hi => ?_⟩⟩
    rw [Nat.zero_add, cell_of_row w g i cur 9 (0, 0) hg]
    have h3 : cur[i]? = (cur.toList.take (l.length * 1))[i]? := by
      rw [List.getElem?_take, if_pos (by omega)]; simp
    rw [h3, htake]
    simp [svT, hi]
theorem own_kept {w w' : World} {base n : Nat} {e : TypeId} {size : Nat} {v : Value} {xs : List Value} {row : Option Nat} (h : w.ownsRow base e size v n xs) (hg : w.grownBy w' row) (hne : ∀ k, v.ownBlock = some k → some k ≠ row) : w'.ownsRow base e size v n xs :=
  World.ownsRow.kept (row := row) h hg (by
    cases hv : v.ownBlock with
    | none => exact .inl rfl
    | some k => exact .inr (fun e => hne k hv e))
theorem set_grown (w : World) (a : Addr) (u : Value) : w.grownBy (w.setCell a u) (some a.block) :=
  ⟨rfl, rfl, rfl, by simp [World.setCell], fun k _ hk => Below.heap_setCell _ _ _ _ (fun e => hk (by rw [e]))⟩
/-- Rows of one's own lie still where another block is stored into. -/
theorem own_set {w : World} {base n : Nat} {e : TypeId} {size : Nat} {v : Value} {xs : List Value} (h : w.ownsRow base e size v n xs) (a : Addr) (u : Value) (hb : a.block < base) : (w.setCell a u).ownsRow base e size v n xs :=
  own_kept h (set_grown w a u) (fun k hk e => by
    have h1 := (World.ownsRow.lt h k hk).1
    have h2 : k = a.block := Option.some.inj e
    omega)
end Go.Proofs.YtclhmmgdhagloaaGreatDoor

namespace Go.Proofs.YtclhmmgdhagloaaGreatDoor
open Go.RowKit Go.Shelf
attribute [local go_sem] cell?_more frozen?_more setCell_more more_lt more_more more_drew more_drewN setCell_drewN alloc_drewN

theorem Box.drew' {w : World} {p : Nat} {v : Va} (h : Box w p v) : Box w.drew p v := h.later (Below.refl _ _).drew
theorem vcells_one (l : List Va) : ∀ u ∈ vcells l, u.oneCell' = true := by
  intro u hu
  simp only [vcells, List.mem_flatMap] at hu
  obtain ⟨v, _, hu⟩ := hu
  exact one_va v u hu
theorem src_of_vk {w : World} {base : Nat} {ao : Option Addr} {f cap : Nat} {st : List Va} (h : Vk w base (.slice ao f cap) (st.take f)) (hf : f ≤ st.length) : Src Tryz.prog 4 48 (.slice ao f cap) f (vcells (st.take f)) w := by
  have hl : (st.take f).length = f := by rw [List.length_take]; omega
  obtain ⟨a, c, e, h1, h2, _, h4⟩ := h.shape
  rw [hl] at e
  simp only [Value.slice.injEq] at e
  obtain ⟨rfl, _, rfl⟩ := e
  cases ao with
  | none =>
    have h0 := (h2 rfl).1
    have hf0 : f = 0 := by rw [h0] at hl; simpa using hl.symm
    subst hf0
    exact Src.ofNil w Tryz.underlying48 cap
  | some a =>
    obtain ⟨g, rfl, _, _, h5⟩ := h4 a rfl
    refine Src.ofSlice w Tryz.underlying48 ⟨g, 0, none⟩ f cap (vcells (st.take f)) (by rw [vcells_len, hl]) (fun j u hu => ?_) (vcells_one _)
    have hj : j < (vcells (st.take f)).length := (List.getElem?_eq_some_iff.1 hu).1
    rw [vcells_len] at hj
    have hi : j / 4 < (st.take f).length := by omega
    have hm : j % 4 < 4 := Nat.mod_lt _ (by decide)
    have e : j / 4 * 4 + j % 4 = j := by omega
    have hc := vcells_at (st.take f) (j / 4) (j % 4) hi hm
    rw [e, hu] at hc
    obtain ⟨c0, c1, c2, c3⟩ := h5 (j / 4) hi
    rw [Addr.add_lit, Nat.zero_add]
    have : j % 4 = 0 ∨ j % 4 = 1 ∨ j % 4 = 2 ∨ j % 4 = 3 := by omega
    rcases this with h | h | h | h
    · rw [h] at hc e
      rw [← e, Nat.add_zero, c0]
      exact hc.symm
    · rw [h] at hc e
      rw [← e, c1]
      exact hc.symm
    · rw [h] at hc e
      rw [← e, c2]
      exact hc.symm
    · rw [h] at hc e
      rw [← e, c3]
      exact hc.symm
theorem vk_base {w : World} {b1 b2 : Nat} {v : Value} {st : List Va} (h : Vk w b1 v st) (hb : b2 ≤ b1) : Vk w b2 v st := by
  obtain ⟨h1, h2⟩ := h
  refine ⟨h1, ?_⟩
  rcases h2 with h | ⟨g, cap, cur, e, hg, rest⟩
  · exact .inl h
  · exact .inr ⟨g, cap, cur, e, Nat.le_trans hb hg, rest⟩
theorem news_of_at4 {w : World} {p : Nat} {v : Va} (h : At4 w p 0 v) : ∀ j u, (vcs v).toList[j]? = some u → w.cell? ((⟨p, 0, none⟩ : Addr).add j) = some u := by
  intro j u hu
  obtain ⟨c0, c1, c2, c3⟩ := h
  simp only [Nat.zero_add] at c1 c2 c3
  rw [Addr.add_lit, Nat.zero_add]
  match j, hu with
  | 0, hu => rw [c0]; exact hu
  | 1, hu => rw [c1]; exact hu
  | 2, hu => rw [c2]; exact hu
  | 3, hu => rw [c3]; exact hu
  | j + 4, hu => simp at hu

def reO20x0 : Oper := { dst := some 102, op := Op.fieldAddr 67 (Operand.tmp 10) 2, type := 0, pos := "ref.go:344", after := #[], guard := none }
def reO20x1 : Oper := { dst := some 103, op := Op.load 9 (Operand.tmp 102), type := 9, pos := "ref.go:344", after := #[{ on := 0, ground := Ground.data }], guard := none }
def reO20x2 : Oper := { dst := some 104, op := Op.move (Operand.tmp 8), type := 48, pos := "ref.go:344", after := #[], guard := none }
def reO20x3 : Oper := { dst := some 105, op := Op.move (Operand.tmp 13), type := 3, pos := "ref.go:344", after := #[], guard := none }
def reO20x4 : Oper := { dst := some 106, op := Op.fieldAddr 67 (Operand.tmp 10) 4, type := 0, pos := "ref.go:344", after := #[], guard := none }
def reO20x5 : Oper := { dst := some 107, op := Op.load 3 (Operand.tmp 106), type := 3, pos := "ref.go:344", after := #[{ on := 4, ground := Ground.data }], guard := none }
def reO20x6 : Oper := { dst := some 108, op := Op.binOp BinOp.sub 3 (Operand.tmp 105) (Operand.tmp 107) 3, type := 3, pos := "ref.go:344", after := #[{ on := 3, ground := Ground.data }, { on := 5, ground := Ground.data }], guard := none }
def reO20x7 : Oper := { dst := some 109, op := Op.slice 48 (Operand.tmp 104) (some (Operand.tmp 108)) none none, type := 48, pos := "ref.go:344", after := #[{ on := 2, ground := Ground.data }, { on := 6, ground := Ground.data }], guard := none }
def reO20x8 : Oper := { dst := some 110, op := Op.call { callee := Callee.value (Operand.func 52), args := #[Operand.tmp 103, Operand.tmp 109], argTypes := #[9, 48] }, type := 58, pos := "ref.go:344", after := #[{ on := 1, ground := Ground.data }, { on := 7, ground := Ground.data }], guard := none }
def reO20x9 : Oper := { dst := some 101, op := Op.move (Operand.tmp 110), type := 58, pos := "ref.go:344", after := #[{ on := 8, ground := Ground.data }], guard := none }
def reO20x10 : Oper := { dst := some 111, op := Op.extract (Operand.tmp 101) 0, type := 42, pos := "ref.go:344", after := #[{ on := 9, ground := Ground.data }], guard := none }
def reO20x11 : Oper := { dst := some 112, op := Op.extract (Operand.tmp 101) 1, type := 3, pos := "ref.go:344", after := #[{ on := 9, ground := Ground.data }, { on := 12, ground := Ground.gcOnly Departure.lateStores }], guard := none }
def reO20x12 : Oper := { dst := none, op := Op.store 42 (Operand.tmp 11) (Operand.tmp 111), type := 0, pos := "ref.go:344", after := #[{ on := 10, ground := Ground.data }, { on := 8, ground := Ground.chain }, { on := 0, ground := Ground.phase }, { on := 1, ground := Ground.phase }, { on := 2, ground := Ground.phase }, { on := 3, ground := Ground.phase }, { on := 4, ground := Ground.phase }, { on := 5, ground := Ground.phase }, { on := 6, ground := Ground.phase }, { on := 7, ground := Ground.phase }, { on := 8, ground := Ground.phase }, { on := 9, ground := Ground.phase }, { on := 10, ground := Ground.phase }, { on := 11, ground := Ground.textOnly Departure.lateStores }], guard := none }
def reO20x13 : Oper := { dst := some 12, op := Op.assign (Operand.tmp 112), type := 3, pos := "ref.go:344", after := #[{ on := 11, ground := Ground.data }, { on := 12, ground := Ground.chain }, { on := 0, ground := Ground.phase }, { on := 1, ground := Ground.phase }, { on := 2, ground := Ground.phase }, { on := 3, ground := Ground.phase }, { on := 4, ground := Ground.phase }, { on := 5, ground := Ground.phase }, { on := 6, ground := Ground.phase }, { on := 7, ground := Ground.phase }, { on := 8, ground := Ground.phase }, { on := 9, ground := Ground.phase }, { on := 10, ground := Ground.phase }, { on := 11, ground := Ground.phase }, { on := 12, ground := Ground.phase }], guard := none }

def reO23x0 : Oper := { dst := some 124, op := Op.fieldAddr 67 (Operand.tmp 10) 0, type := 0, pos := "ref.go:347", after := #[], guard := none }
def reO23x1 : Oper := { dst := some 125, op := Op.load 3 (Operand.tmp 124), type := 3, pos := "ref.go:347", after := #[{ on := 0, ground := Ground.data }], guard := none }
def reO23x2 : Oper := { dst := some 126, op := Op.move (Operand.tmp 8), type := 48, pos := "ref.go:347", after := #[], guard := none }
def reO23x3 : Oper := { dst := some 127, op := Op.move (Operand.tmp 13), type := 3, pos := "ref.go:347", after := #[], guard := none }
def reO23x4 : Oper := { dst := some 128, op := Op.binOp BinOp.sub 3 (Operand.tmp 127) (Operand.const (Value.int IntKind.i64 1)) 3, type := 3, pos := "ref.go:347", after := #[{ on := 3, ground := Ground.data }], guard := none }
def reO23x5 : Oper := { dst := some 129, op := Op.indexAddr 48 (Operand.tmp 126) (Operand.tmp 128), type := 0, pos := "ref.go:347", after := #[{ on := 2, ground := Ground.data }, { on := 4, ground := Ground.data }], guard := none }
def reO23x6 : Oper := { dst := some 130, op := Op.load 42 (Operand.tmp 129), type := 42, pos := "ref.go:347", after := #[{ on := 5, ground := Ground.data }], guard := none }
def reO23x7 : Oper := { dst := some 131, op := Op.call { callee := Callee.value (Operand.func 53), args := #[Operand.tmp 125, Operand.tmp 130], argTypes := #[3, 42] }, type := 58, pos := "ref.go:347", after := #[{ on := 1, ground := Ground.data }, { on := 6, ground := Ground.data }], guard := none }
def reO23x8 : Oper := { dst := some 123, op := Op.move (Operand.tmp 131), type := 58, pos := "ref.go:347", after := #[{ on := 7, ground := Ground.data }], guard := none }
def reO23x9 : Oper := { dst := some 132, op := Op.extract (Operand.tmp 123) 0, type := 42, pos := "ref.go:347", after := #[{ on := 8, ground := Ground.data }], guard := none }
def reO23x10 : Oper := { dst := some 133, op := Op.extract (Operand.tmp 123) 1, type := 3, pos := "ref.go:347", after := #[{ on := 8, ground := Ground.data }, { on := 11, ground := Ground.gcOnly Departure.lateStores }], guard := none }
def reO23x11 : Oper := { dst := none, op := Op.store 42 (Operand.tmp 11) (Operand.tmp 132), type := 0, pos := "ref.go:347", after := #[{ on := 9, ground := Ground.data }, { on := 7, ground := Ground.chain }, { on := 0, ground := Ground.phase }, { on := 1, ground := Ground.phase }, { on := 2, ground := Ground.phase }, { on := 3, ground := Ground.phase }, { on := 4, ground := Ground.phase }, { on := 5, ground := Ground.phase }, { on := 6, ground := Ground.phase }, { on := 7, ground := Ground.phase }, { on := 8, ground := Ground.phase }, { on := 9, ground := Ground.phase }, { on := 10, ground := Ground.textOnly Departure.lateStores }], guard := none }
def reO23x12 : Oper := { dst := some 12, op := Op.assign (Operand.tmp 133), type := 3, pos := "ref.go:347", after := #[{ on := 10, ground := Ground.data }, { on := 11, ground := Ground.chain }, { on := 0, ground := Ground.phase }, { on := 1, ground := Ground.phase }, { on := 2, ground := Ground.phase }, { on := 3, ground := Ground.phase }, { on := 4, ground := Ground.phase }, { on := 5, ground := Ground.phase }, { on := 6, ground := Ground.phase }, { on := 7, ground := Ground.phase }, { on := 8, ground := Ground.phase }, { on := 9, ground := Ground.phase }, { on := 10, ground := Ground.phase }, { on := 11, ground := Ground.phase }], guard := none }

def reO11x0 : Oper := { dst := some 55, op := Op.fieldAddr 67 (Operand.tmp 10) 0, type := 0, pos := "ref.go:350", after := #[], guard := none }
def reO11x1 : Oper := { dst := some 56, op := Op.load 3 (Operand.tmp 55), type := 3, pos := "ref.go:350", after := #[{ on := 0, ground := Ground.data }], guard := none }
def reO11x2 : Oper := { dst := some 57, op := Op.move (Operand.tmp 8), type := 48, pos := "ref.go:350", after := #[], guard := none }
def reO11x3 : Oper := { dst := some 58, op := Op.move (Operand.tmp 13), type := 3, pos := "ref.go:350", after := #[], guard := none }
def reO11x4 : Oper := { dst := some 59, op := Op.binOp BinOp.sub 3 (Operand.tmp 58) (Operand.const (Value.int IntKind.i64 2)) 3, type := 3, pos := "ref.go:350", after := #[{ on := 3, ground := Ground.data }], guard := none }
def reO11x5 : Oper := { dst := some 60, op := Op.indexAddr 48 (Operand.tmp 57) (Operand.tmp 59), type := 0, pos := "ref.go:350", after := #[{ on := 2, ground := Ground.data }, { on := 4, ground := Ground.data }], guard := none }
def reO11x6 : Oper := { dst := some 61, op := Op.load 42 (Operand.tmp 60), type := 42, pos := "ref.go:350", after := #[{ on := 5, ground := Ground.data }], guard := none }
def reO11x7 : Oper := { dst := some 62, op := Op.move (Operand.tmp 8), type := 48, pos := "ref.go:350", after := #[], guard := none }
def reO11x8 : Oper := { dst := some 63, op := Op.move (Operand.tmp 13), type := 3, pos := "ref.go:350", after := #[], guard := none }
def reO11x9 : Oper := { dst := some 64, op := Op.binOp BinOp.sub 3 (Operand.tmp 63) (Operand.const (Value.int IntKind.i64 1)) 3, type := 3, pos := "ref.go:350", after := #[{ on := 8, ground := Ground.data }], guard := none }
def reO11x10 : Oper := { dst := some 65, op := Op.indexAddr 48 (Operand.tmp 62) (Operand.tmp 64), type := 0, pos := "ref.go:350", after := #[{ on := 7, ground := Ground.data }, { on := 9, ground := Ground.data }], guard := none }
def reO11x11 : Oper := { dst := some 66, op := Op.load 42 (Operand.tmp 65), type := 42, pos := "ref.go:350", after := #[{ on := 10, ground := Ground.data }], guard := none }
def reO11x12 : Oper := { dst := some 67, op := Op.call { callee := Callee.value (Operand.func 54), args := #[Operand.tmp 56, Operand.tmp 61, Operand.tmp 66], argTypes := #[3, 42, 42] }, type := 58, pos := "ref.go:350", after := #[{ on := 1, ground := Ground.data }, { on := 6, ground := Ground.data }, { on := 11, ground := Ground.data }], guard := none }
def reO11x13 : Oper := { dst := some 54, op := Op.move (Operand.tmp 67), type := 58, pos := "ref.go:350", after := #[{ on := 12, ground := Ground.data }], guard := none }
def reO11x14 : Oper := { dst := some 68, op := Op.extract (Operand.tmp 54) 0, type := 42, pos := "ref.go:350", after := #[{ on := 13, ground := Ground.data }], guard := none }
def reO11x15 : Oper := { dst := some 69, op := Op.extract (Operand.tmp 54) 1, type := 3, pos := "ref.go:350", after := #[{ on := 13, ground := Ground.data }, { on := 16, ground := Ground.gcOnly Departure.lateStores }], guard := none }
def reO11x16 : Oper := { dst := none, op := Op.store 42 (Operand.tmp 11) (Operand.tmp 68), type := 0, pos := "ref.go:350", after := #[{ on := 14, ground := Ground.data }, { on := 12, ground := Ground.chain }, { on := 0, ground := Ground.phase }, { on := 1, ground := Ground.phase }, { on := 2, ground := Ground.phase }, { on := 3, ground := Ground.phase }, { on := 4, ground := Ground.phase }, { on := 5, ground := Ground.phase }, { on := 6, ground := Ground.phase }, { on := 7, ground := Ground.phase }, { on := 8, ground := Ground.phase }, { on := 9, ground := Ground.phase }, { on := 10, ground := Ground.phase }, { on := 11, ground := Ground.phase }, { on := 12, ground := Ground.phase }, { on := 13, ground := Ground.phase }, { on := 14, ground := Ground.phase }, { on := 15, ground := Ground.textOnly Departure.lateStores }], guard := none }
def reO11x17 : Oper := { dst := some 12, op := Op.assign (Operand.tmp 69), type := 3, pos := "ref.go:350", after := #[{ on := 15, ground := Ground.data }, { on := 16, ground := Ground.chain }, { on := 0, ground := Ground.phase }, { on := 1, ground := Ground.phase }, { on := 2, ground := Ground.phase }, { on := 3, ground := Ground.phase }, { on := 4, ground := Ground.phase }, { on := 5, ground := Ground.phase }, { on := 6, ground := Ground.phase }, { on := 7, ground := Ground.phase }, { on := 8, ground := Ground.phase }, { on := 9, ground := Ground.phase }, { on := 10, ground := Ground.phase }, { on := 11, ground := Ground.phase }, { on := 12, ground := Ground.phase }, { on := 13, ground := Ground.phase }, { on := 14, ground := Ground.phase }, { on := 15, ground := Ground.phase }, { on := 16, ground := Ground.phase }], guard := none }

def reO27x0 : Oper := { dst := some 142, op := Op.buildSlice 48 0 #[], type := 48, pos := "ref.go:356", after := #[], guard := none }
def reO27x1 : Oper := { dst := some 143, op := Op.move (Operand.tmp 8), type := 48, pos := "ref.go:356", after := #[], guard := none }
def reO27x2 : Oper := { dst := some 144, op := Op.call { callee := Callee.builtin Builtin.append, args := #[Operand.tmp 142, Operand.tmp 143], argTypes := #[48, 48] }, type := 48, pos := "ref.go:356", after := #[{ on := 0, ground := Ground.data }, { on := 1, ground := Ground.data }], guard := none }
def reO27x3 : Oper := { dst := some 145, op := Op.load 42 (Operand.tmp 11), type := 42, pos := "ref.go:356", after := #[], guard := none }
def reO27x4 : Oper := { dst := some 146, op := Op.buildSlice 48 1 #[(0, Operand.tmp 145)], type := 48, pos := "ref.go:356", after := #[{ on := 3, ground := Ground.data }], guard := none }
def reO27x5 : Oper := { dst := some 147, op := Op.call { callee := Callee.builtin Builtin.append, args := #[Operand.tmp 144, Operand.tmp 146], argTypes := #[48, 48] }, type := 48, pos := "ref.go:356", after := #[{ on := 2, ground := Ground.data }, { on := 4, ground := Ground.data }, { on := 2, ground := Ground.chain }], guard := none }
def reO27x6 : Oper := { dst := some 8, op := Op.assign (Operand.tmp 147), type := 48, pos := "ref.go:356", after := #[{ on := 5, ground := Ground.data }, { on := 5, ground := Ground.chain }, { on := 0, ground := Ground.phase }, { on := 1, ground := Ground.phase }, { on := 2, ground := Ground.phase }, { on := 3, ground := Ground.phase }, { on := 4, ground := Ground.phase }, { on := 5, ground := Ground.phase }], guard := none }

set_option maxRecDepth 20000 in
set_option maxHeartbeats 8000000 in
theorem reval_good (lo ta na ro : Option Addr) (lc tc nc rc : Nat) (l : List Nd) (ts ns : List (List UInt8)) (row : List Va) (w : World) (hv : Nw w lo l) (ht : Sl w ta ts) (hn : Sl w na ns) (hr : Vs w ro row)
    (hd : 0 < depN mayN l) (het : ts.length = row.length) (hen : ns.length = row.length) (har : row.all vr = true) (hl : row.length ≤ 140737488351232) (hi6 : ∀ x ∈ l, vin x.v) (hir : ∀ v ∈ row, vin v)
    (RI : Hid (∀ W, Below w.heap.size w W → Calls Tryz.prog 10 #[.slice lo l.length lc] W fun e w' => e = .returned (.bool true) ∧ Below W.heap.size W w'))
    (AR : Hid (∀ W, Below w.heap.size w W → Calls Tryz.prog 51 #[.slice ro row.length rc] W fun e w' => e = .returned (.bool true) ∧ Below W.heap.size W w'))
    (FU : Hid (∀ (nm : List UInt8) (ao : Option Addr) (cap : Nat) (l : List Va) (W : World), Vs W ao l → l.length ≤ 140737488351232 → (∀ x ∈ l, vin x) → Calls Tryz.prog 52 #[.string ⟨nm.toArray⟩, .slice ao l.length cap] W fun e w' => e = .returned (rs (funR nm l)) ∧ Below W.heap.size W w'))
    (UN : Hid (∀ (op : Int) (a : Va) (W : World), vin a → Calls Tryz.prog 53 #[.int .i64 op, vv a] W fun e w' => e = .returned (rs (unR op a)) ∧ Below W.heap.size W w'))
    (BI : Hid (∀ (op : Int) (a b : Va) (W : World), vin a → vin b → Calls Tryz.prog 54 #[.int .i64 op, vv a, vv b] W fun e w' => e = .returned (rs (binR op a b)) ∧ Below W.heap.size W w')) :
    Calls Tryz.prog 28 #[.slice lo l.length lc, scv ta na ts.length ns.length tc nc, .slice ro row.length rc] w fun e w' => e = .returned (rs (evL ts ns row l [])) ∧ Below w.heap.size w w' := by
  obtain ⟨i0, hi, hz0, hz1, hz2⟩ := info_parts Tryz.info42
  obtain ⟨hlen, d, hrun⟩ := dep_one hd
  have gr : ∀ v ∈ row, gv v := fun v hv => ⟨List.all_eq_true.1 har v hv, hir v hv⟩
  have gx : Hid (∀ x ∈ l, mayN x = true → x.o = 1 → gv x.v) := fun x hx hm ho => by
    refine ⟨?_, hi6 x hx⟩
    unfold mayN fitN at hm
    rw [Bool.and_eq_true, if_pos ho] at hm
    have := hm.2
    unfold litV at this
    rw [Bool.and_eq_true] at this
    exact this.1
  have GRW : Hid (∀ v ∈ row, gv v) := gr
  have HV : Hid (Nw w lo l) := hv
  have HSt : Hid (Sl w ta ts) := ht
  have HSn : Hid (Sl w na ns) := hn
  have HVr : Hid (Vs w ro row) := hr
  obtain ⟨R, hR⟩ : ∃ R, R = evL ts ns row l [] := ⟨_, rfl⟩
  rw [← hR]
  have HR : Hid (evL ts ns row (l.drop 0) [] = R) := hR.symm
  have HD : Hid (runD mayN (l.drop 0) [] = some [d]) := hrun
  clear hR hrun hv ht hn hr har hi6 hir gr hd
  obtain ⟨m, hm⟩ : ∃ m, row.length = m := ⟨_, rfl⟩
  have HMR : Hid (row.length = m) := hm
  have HMT : Hid (ts.length = m) := by show _ = _; omega
  have HMN : Hid (ns.length = m) := by show _ = _; omega
  rw [het, hen, hm]
  rw [hm] at AR hl
  obtain ⟨n, hnn⟩ : ∃ n, l.length = n := ⟨_, rfl⟩
  rw [hnn] at hlen RI ⊢
  have HN : Hid (l.length = n) := hnn
  clear hnn hm het hen
  have h1 := Cbox.new w #[.slice ta m tc, .slice na m nc] 47
  have h2 := Box.new (w.alloc (.cells #[.slice ta m tc, .slice na m nc] 47)) 0 0 0 []
  have B00 : Below w.heap.size w ((w.alloc (.cells #[.slice ta m tc, .slice na m nc] 47)).alloc (.cells #[.int .i64 0, .int .i64 0, .int .i64 0, .string ⟨#[]⟩] 42)) := ((Below.refl _ w).alloc (Nat.le_refl _) _).alloc (by simp) _
  simp only [World.size_alloc] at h2
  have h1' := h1.later ((Below.refl _ _).alloc (Nat.le_refl _) (.cells #[.int .i64 0, .int .i64 0, .int .i64 0, .string ⟨#[]⟩] 42))
  generalize hw0 : ((w.alloc (.cells #[.slice ta m tc, .slice na m nc] 47)).alloc (.cells #[.int .i64 0, .int .i64 0, .int .i64 0, .string ⟨#[]⟩] 42)) = w0 at h1' h2 B00
  clear h1
  go_enter Tryz.func28, Tryz.ntmps28
  go_upto_region 1 with fail
  try rw [hw0]
  clear hw0
  have z0 := h1'.at 0
  have z1 := h1'.at 1
  have zl := h1'.lt
  have R1 := RI.out w0 B00
  go_wp2_with fail
  refine R1.mono ?_
  rintro e wa ⟨rfl, ba⟩
  have Ba := below_trans B00 ba
  have A2 := AR.out wa Ba
  have c0 := (h1'.later ba).at 0
  have c1 := (h1'.later ba).at 1
  have cl := (h1'.later ba).lt
  clear z0 z1 zl R1
  go_wp2_with fail
  refine A2.mono ?_
  rintro e w1 ⟨rfl, b1⟩
  have B0 := below_trans Ba b1
  have SBX0 := (h1'.later ba).later b1
  have RBX0 := (h2.later ba).later b1
  clear A2 c0 c1 cl RI AR h1' h2 ba b1 Ba B00
  obtain ⟨sb, hsb⟩ : ∃ sb, w.heap.size = sb := ⟨_, rfl⟩
  have SBX : Hid (Cbox w1 sb #[.slice ta m tc, .slice na m nc] 47) := by rw [← hsb]; exact SBX0
  have RBX : Hid (Box w1 (sb + 1) nul) := by rw [← hsb]; exact RBX0
  have hsbw : w.heap.size ≤ sb := by omega
  clear SBX0 RBX0
  rw [hsb]
  clear hsb
  go_wp2
  go_loopw [8, 9] (fun r8 r9 wr => ∃ (k : Nat) (st : List Va), r9 = .int .i64 (k : Int) ∧ k ≤ n ∧ st.length ≤ k ∧ Vk wr w1.heap.size r8 st ∧ Below w1.heap.size w1 wr ∧ Hid (evL ts ns row (l.drop k) st = R) ∧ Hid (∃ ds, ds.length = st.length ∧ runD mayN (l.drop k) ds = some [d]) ∧ Hid (∀ v ∈ st, gv v)) (fun _ r _ => n - (intOf r).toNat)
  case atStart => exact ⟨0, [], rfl, Nat.zero_le _, Nat.zero_le _, World.ownsRow_nil _ _ _ _, Below.refl _ _, HR, ⟨[], rfl, HD.out⟩, fun v h => by simp at h⟩
  case round =>
    obtain ⟨k, st, rfl, hk, hsl, ho, hb, hH, hD, HG⟩ := hrel
    have sB := hb.size
    obtain ⟨so, sc, rfl, hsc, hsn, hcut, hcell⟩ := ho.shape
    by_cases hlt : k < n
    · have hlt' : (k : Int) < (n : Int) := by omega
      have k0 : (0 : Int) ≤ (k : Int) := by omega
      have hkl : k < l.length := by rw [HN.out]; exact hlt
      obtain ⟨b, off, rfl, hcl⟩ := HV.out (by omega)
      obtain ⟨c0, c1, c2, c3, c4, c5, c6, c7⟩ := ((hcl k hkl).later (below_trans B0 hb))
      have hg' := ((hcl k hkl).later (below_trans B0 hb)).lt
      have hdr : l.drop k = l[k] :: l.drop (k + 1) := List.drop_eq_getElem_cons hkl
      have gxk := gx.out l[k] (List.getElem_mem _)
      obtain ⟨x, he⟩ : ∃ x : Nd, x = l[k] := ⟨_, rfl⟩
      rw [← he] at c0 c1 c2 c3 c4 c5 c6 c7 hdr gxk
      obtain ⟨ds, hdl, hrd⟩ := hD.out
      rw [hdr] at hrd
      obtain ⟨hmx, hopx, ds', hdl', hrd'⟩ := runD_one hrd
      have hox := mayN_ops x hmx
      obtain ⟨q, hq⟩ : ∃ q : Nat, opsN x = (q : Int) := ⟨(opsN x).toNat, by omega⟩
      have hst0 := hH.out
      rw [hdr] at hst0
      unfold evL at hst0
      rw [hq, Int.toNat_natCast] at hst0
      rw [hq, hdl] at hopx
      rw [hq, Int.toNat_natCast, hdl] at hdl'
      have HGR0 := gv_stp x (st.drop (st.length - q)) ts ns row (gxk hmx) (mem_drop_gv HG.out) GRW.out
      have HDD : Hid (∃ ds, ds.length = st.length - q + 1 ∧ runD mayN (l.drop (k + 1)) ds = some [d]) := ⟨ds', hdl', hrd'⟩
      have HQ : Hid (opsN x = (q : Int)) := hq
      have HOR : Hid (¬ x.o = 1 → ¬ x.o = 2 → ¬ x.o = 19 → 3 ≤ x.o ∧ x.o ≤ 18) := fun h1 h2 h3 => by
        unfold mayN fitN at hmx
        rw [if_neg h1, if_neg h2, if_neg h3] at hmx
        simp only [Bool.and_eq_true, decide_eq_true_eq] at hmx
        exact hmx.2
      have hq4 : q ≤ 4 := by omega
      have hqs : q ≤ st.length := by omega
      have HK : Hid (st.length ≤ k ∧ k ≤ 255) := ⟨hsl, by omega⟩
      clear hcl he hH HR hdr hD HD hrd hrd' hdl hdl' hmx hox hopx hq gxk gx
      obtain ⟨f, hf⟩ : ∃ f : Nat, f = st.length - q := ⟨_, rfl⟩
      rw [← hf] at hst0 HDD HGR0
      rcases hrs : stpR x (st.drop f) ts ns row with ⟨⟨rk, rn, rm, rb⟩, re⟩
      rw [hrs] at hst0 HGR0
      have HRS : Hid (stpR x (st.drop f) ts ns row = (⟨rk, rn, rm, rb⟩, re)) := hrs
      have HST : Hid ((if re = 0 then evL ts ns row (l.drop (k + 1)) (st.take f ++ [⟨rk, rn, rm, rb⟩]) else (nul, re)) = R) := hst0
      have HGR : Hid (gv ⟨rk, rn, rm, rb⟩) := HGR0
      clear hst0 HGR0 hrs
      have hfr : (st.length : Int) - (q : Int) = (f : Int) := by omega
      have hfl : f ≤ st.length := by omega
      have hfl' : (f : Int) ≤ (st.length : Int) := by omega
      have hqe : st.length - f = q := by omega
      have hst256 : st.length ≤ 255 := by have := HK.out; omega
      have hwf : IntKind.i64.wrap (f : Int) = (f : Int) := by rw [IntKind.wrap_i64]; omega
      have HO : Hid (Vk wr w1.heap.size (.slice so f sc) (st.take f)) := hcut f hfl
      have SOM : Hid (¬ sc = f → ∃ g, so = some ⟨g, 0, none⟩ ∧ w1.heap.size ≤ g ∧ g < wr.heap.size ∧ ∀ i (h : i < st.length), At4 wr g (i * 4) st[i]) := fun hsf => by
        cases so with
        | none => obtain ⟨h1, h2⟩ := hsn rfl; subst h1; exact absurd (by simp at hfl; omega) hsf
        | some a => obtain ⟨g, rfl, h2⟩ := hcell a rfl; exact ⟨g, rfl, h2⟩
      have Bn00 : Below wr.heap.size wr (wr.alloc (.cells (ncs x) 67)) := (Below.refl _ _).alloc (Nat.le_refl _) _
      have BXN0 : Cbox (wr.alloc (.cells (ncs x) 67)) wr.heap.size (ncs x) 67 := Cbox.new wr _ _
      have hszn : (wr.alloc (.cells (ncs x) 67)).heap.size = wr.heap.size + 1 := by simp
      obtain ⟨xo, xt, xn, ⟨vk, vn, vm, vb⟩, xa⟩ := x
      have BXV0 := Box.new (wr.alloc (.cells (ncs ⟨xo, xt, xn, ⟨vk, vn, vm, vb⟩, xa⟩) 67)) vk vn vm vb
      have HB20 : Below (wr.alloc (.cells (ncs ⟨xo, xt, xn, ⟨vk, vn, vm, vb⟩, xa⟩) 67)).heap.size (wr.alloc (.cells (ncs ⟨xo, xt, xn, ⟨vk, vn, vm, vb⟩, xa⟩) 67)) _ := (Below.refl _ _).alloc (Nat.le_refl _) (.cells (vcs ⟨vk, vn, vm, vb⟩) 42)
      clear hcell hcut ho hsn hf
      go_upto_block 2 with fail
      have hpw : wr.heap.size ≤ (wr.alloc (.cells (ncs ⟨xo, xt, xn, ⟨vk, vn, vm, vb⟩, xa⟩) 67)).heap.size := by omega
      generalize hwn : wr.alloc (.cells (ncs ⟨xo, xt, xn, ⟨vk, vn, vm, vb⟩, xa⟩) 67) = wn at *
      generalize hw2 : wn.alloc (.cells #[.int .i64 vk, .int .i64 vn, .int .i64 vm, .string ⟨vb.toArray⟩] 42) = w2 at *
      obtain ⟨pv, hpv⟩ : ∃ pv, wn.heap.size = pv := ⟨_, rfl⟩
      rw [hpv] at BXV0
      have HPV : Hid (wn.heap.size ≤ pv) := by show _ ≤ _; omega
      try rw [← hszn]
      try rw [hpv]
      have BXN : Hid (Cbox wn wr.heap.size (ncs ⟨xo, xt, xn, ⟨vk, vn, vm, vb⟩, xa⟩) 67) := BXN0
      have BXV : Hid (Box w2 pv ⟨vk, vn, vm, vb⟩) := BXV0
      have HB2 : Hid (Below wn.heap.size wn w2) := HB20
      have Bn0 : Hid (Below wr.heap.size wr wn) := Bn00
      have Bn : Hid (Below w1.heap.size w1 wn) := below_trans hb Bn00
      have B2 : Hid (Below wr.heap.size wr w2) := below_trans Bn00 HB20
      have Bw2 : Hid (Below w.heap.size w w2) := below_trans (below_trans B0 hb) B2.out
      have BXS2 : Hid (Cbox w2 sb #[.slice ta m tc, .slice na m nc] 47) := (SBX.out.later hb).later B2.out
      have hpn : wr.heap.size < pv := by omega
      have hne1 : ¬ wr.heap.size = pv := by omega
      have hne2 : ¬ pv = wr.heap.size := by omega
      clear BXN0 BXV0 HB20 Bn00 hwn hw2 hpw hszn hpv c0 c1 c2 c3 c4 c5 c6 c7 hg'
      dsimp only at HOR
      go_cut [8, 12] from 40 to 147 (fun s8 s12 wx => s8 = .slice so f sc ∧ s12 = .int .i64 re ∧ (re = 0 → At4 wx pv 0 ⟨rk, rn, rm, rb⟩) ∧ Below wr.heap.size wr wx)
      case first =>
        by_cases h1 : xo = 1
        · -- a value
          subst h1
          obtain rfl : q = 0 := by have := HQ.out; simp [opsN] at this; omega
          obtain rfl : f = st.length := by omega
          have hr1 : vk = rk ∧ vn = rn ∧ vm = rm ∧ vb = rb ∧ 0 = re := by have := HRS.out; simp [stpR] at this; obtain ⟨⟨a, b, c, d⟩, e⟩ := this; exact ⟨a, b, c, d, e⟩
          obtain ⟨rfl, rfl, rfl, rfl, rfl⟩ := hr1
          have C := BXN.out.later HB2.out
          have e0 := C.at 0
          have el := C.lt
          clear C HGR HRS HST
          go_wp2_with fail
          go_meet
          exact ⟨rfl, rfl, fun _ => BXV.out.at4, B2.out⟩
        by_cases h2 : xo = 2
        · -- a column
          subst h2
          obtain rfl : q = 0 := by have := HQ.out; simp [opsN] at this; omega
          obtain rfl : f = st.length := by omega
          have F0 := rfind_any ta na tc nc ts ns xt xn w2 (HSt.out.later Bw2.out) (HSn.out.later Bw2.out) (by rw [HMN.out]; omega)
          have AT := fun h => findR_at (ts := ts) (ns := ns) (t := xt) (n := xn) h
          have hR2 := HRS.out
          unfold stpR at hR2
          dsimp only at hR2
          rw [if_neg (by decide), if_pos rfl] at hR2
          unfold colR at hR2
          dsimp only at hR2
          rw [HMT.out, HMN.out] at F0
          generalize findR ts ns xt xn = ff at *
          obtain ⟨fp, fe⟩ := ff
          simp only at F0 AT hR2
          have C := BXN.out.later HB2.out
          have e0 := C.at 0
          have e1 := C.at 1
          have e2 := C.at 2
          have el := C.lt
          have D := BXS2.out
          have d0 := D.at 0
          have d1 := D.at 1
          have dl := D.lt
          clear C D HGR HST
          by_cases hfe : fe = 0
          · subst hfe
            rw [if_pos rfl] at hR2
            have hfn := (AT rfl).1
            have hpr : fp < row.length := by rw [HMR.out, ← HMN.out]; exact hfn
            obtain ⟨rb0, roff, rfl, hrc⟩ := HVr.out (by omega)
            have hc' := (hrc fp hpr).later Bw2.out
            have er : row.getD fp nul = row[fp] := by rw [List.getD_eq_getElem?_getD, List.getElem?_eq_getElem hpr]; rfl
            rw [er] at hR2
            obtain ⟨hr1, rfl⟩ := Prod.mk.inj hR2
            rw [hr1] at hc'
            have hpm : (fp : Int) < (m : Int) := by rw [← HMR.out]; omega
            have hp0 : (0 : Int) ≤ (fp : Int) := by omega
            have HC : Hid (At4 w2 rb0 (roff + fp * 4) ⟨rk, rn, rm, rb⟩) := hc'
            clear hrc hc' er hr1 hR2
            clear AT hfn HRS hpr
            go_wp2_with fail
            refine F0.mono ?_
            rintro e w3 ⟨rfl, b3⟩
            have bx := BXV.out.later b3
            have y0 := bx.at4.1; have y1 := bx.at4.2.1; have y2 := bx.at4.2.2.1; have y3 := bx.at4.2.2.2; have yl := bx.lt; have g0 := bx.free 0; have g1 := bx.free 1; have g2 := bx.free 2; have g3 := bx.free 3
            dsimp only at y0 y1 y2 y3
            simp only [Nat.zero_add] at y1 y2 y3
            clear bx
            obtain ⟨c0, c1, c2, c3⟩ := HC.out.later b3
            have hg := (HC.out.later b3).lt
            dsimp only at c0 c1 c2 c3
            clear e0 e1 e2 el d0 d1 dl F0
            go_wp2_with fail
            go_meet
            exact ⟨rfl, rfl, fun _ => ⟨by simp (maxDischargeDepth := 12) [go_sem, y0], by simp (maxDischargeDepth := 12) [go_sem, y1], by simp (maxDischargeDepth := 12) [go_sem, y2], by simp (maxDischargeDepth := 12) [go_sem, y3]⟩, below_trans Bn0.out (res_kept (q := pv) (below_trans HB2.out b3) HPV.out _ _ _ _)⟩
          · rw [if_neg hfe] at hR2
            obtain ⟨_, rfl⟩ := Prod.mk.inj hR2
            have hfe' : ¬ fe = 0 := hfe
            clear hR2 AT HRS hfe
            go_wp2_with fail
            refine F0.mono ?_
            rintro e w3 ⟨rfl, b3⟩
            clear e0 e1 e2 el d0 d1 dl F0
            go_wp2_with fail
            go_meet
            exact ⟨rfl, rfl, fun h => absurd h hfe', below_trans B2.out b3⟩
        by_cases h3 : xo = 19
        · -- a call
          subst h3
          obtain rfl : xa = (q : Int) := by have := HQ.out; simpa [opsN] using this
          have HRC : Hid (funR xn (st.drop f) = (⟨rk, rn, rm, rb⟩, re)) := by have := HRS.out; unfold stpR at this; dsimp only at this; rw [if_neg (by decide), if_neg (by decide), if_pos rfl] at this; exact this
          have hq0' : (0 : Int) ≤ (f : Int) := by omega
          by_cases hsf : sc = f
          · -- nothing behind
            have hq0 : q = 0 := by omega
            subst hq0
            have hle : st.length = sc := by omega
            have hfs : f = st.length := by omega
            subst hfs
            subst hle
            have TT : ∀ W, Below w1.heap.size w1 W → Calls Tryz.prog 52 #[.string ⟨xn.toArray⟩, .slice so 0 0] W fun e w' => e = .returned (.tuple #[va rk rn rm ⟨rb.toArray⟩, .int .i64 re]) ∧ Below W.heap.size W w' := fun W h => by
              have := FU.out xn so 0 (st.drop st.length) W (fun hp => by rw [List.length_drop] at hp; omega) (by simp) (fun v hv => by simp at hv)
              rw [List.length_drop, Nat.sub_self, HRC.out] at this
              exact this
            have C := BXN.out.later HB2.out
            have e0 := C.at 0
            have el := C.lt
            clear C
            clear HRC HRS HST HGR SOM
            go_upto_region 20 with fail
            clear e0 el
            refine wp_region_held_drew (S := (fun W => Below wn.heap.size wn W)) (by kernel_rfl) ?_ (fun hHeld => ?_)
            · ((try dsimp only); exact HB2.out.drew)
            refine wpAnyH_take (i := 0) (oi := reO20x0) (v := ?_) rfl (by kernel_rfl) (by kernel_rfl) (by kernel_rfl) (fun _ _ _ h => h) (Or.inl ⟨by rfl, ?_⟩) (by assumption) ?_
            rotate_left
            · (intro W hSw; (try dsimp only at hSw); have C := BXN.out.later hSw; have e0 := C.at 0; have e1 := C.at 1; have e2 := C.at 2; have e3 := C.at 3; have e4 := C.at 4; have e5 := C.at 5; have e6 := C.at 6; have e7 := C.at 7; clear C; try simp only [reO20x0]; first | (go_simp; done) | (go_simp; with_reducible rfl))
            try simp only [reO20x0, Act.put, List.setIfInBounds_toArray, List.set_cons_zero, List.set_cons_succ]
            refine wpAnyH_take (i := 1) (oi := reO20x1) (v := ?_) rfl (by kernel_rfl) (by kernel_rfl) (by kernel_rfl) (fun _ _ _ h => h) (Or.inl ⟨by rfl, ?_⟩) (by assumption) ?_
            rotate_left
            · (intro W hSw; (try dsimp only at hSw); have C := BXN.out.later hSw; have e0 := C.at 0; have e1 := C.at 1; have e2 := C.at 2; have e3 := C.at 3; have e4 := C.at 4; have e5 := C.at 5; have e6 := C.at 6; have e7 := C.at 7; clear C; try simp only [reO20x1]; first | (go_simp; done) | (go_simp; with_reducible rfl))
            try simp only [reO20x1, Act.put, List.setIfInBounds_toArray, List.set_cons_zero, List.set_cons_succ]
            refine wpAnyH_take (i := 2) (oi := reO20x2) (v := ?_) rfl (by kernel_rfl) (by kernel_rfl) (by kernel_rfl) (fun _ _ _ h => h) (Or.inl ⟨by rfl, ?_⟩) (by assumption) ?_
            rotate_left
            · (intro W hSw; (try dsimp only at hSw); have C := BXN.out.later hSw; have e0 := C.at 0; have e1 := C.at 1; have e2 := C.at 2; have e3 := C.at 3; have e4 := C.at 4; have e5 := C.at 5; have e6 := C.at 6; have e7 := C.at 7; clear C; try simp only [reO20x2]; first | (go_simp; done) | (go_simp; with_reducible rfl))
            try simp only [reO20x2, Act.put, List.setIfInBounds_toArray, List.set_cons_zero, List.set_cons_succ]
            refine wpAnyH_take (i := 3) (oi := reO20x3) (v := ?_) rfl (by kernel_rfl) (by kernel_rfl) (by kernel_rfl) (fun _ _ _ h => h) (Or.inl ⟨by rfl, ?_⟩) (by assumption) ?_
            rotate_left
            · (intro W hSw; (try dsimp only at hSw); have C := BXN.out.later hSw; have e0 := C.at 0; have e1 := C.at 1; have e2 := C.at 2; have e3 := C.at 3; have e4 := C.at 4; have e5 := C.at 5; have e6 := C.at 6; have e7 := C.at 7; clear C; try simp only [reO20x3]; first | (go_simp; done) | (go_simp; with_reducible rfl))
            try simp only [reO20x3, Act.put, List.setIfInBounds_toArray, List.set_cons_zero, List.set_cons_succ]
            refine wpAnyH_take (i := 4) (oi := reO20x4) (v := ?_) rfl (by kernel_rfl) (by kernel_rfl) (by kernel_rfl) (fun _ _ _ h => h) (Or.inl ⟨by rfl, ?_⟩) (by assumption) ?_
            rotate_left
            · (intro W hSw; (try dsimp only at hSw); have C := BXN.out.later hSw; have e0 := C.at 0; have e1 := C.at 1; have e2 := C.at 2; have e3 := C.at 3; have e4 := C.at 4; have e5 := C.at 5; have e6 := C.at 6; have e7 := C.at 7; clear C; try simp only [reO20x4]; first | (go_simp; done) | (go_simp; with_reducible rfl))
            try simp only [reO20x4, Act.put, List.setIfInBounds_toArray, List.set_cons_zero, List.set_cons_succ]
            refine wpAnyH_take (i := 5) (oi := reO20x5) (v := ?_) rfl (by kernel_rfl) (by kernel_rfl) (by kernel_rfl) (fun _ _ _ h => h) (Or.inl ⟨by rfl, ?_⟩) (by assumption) ?_
            rotate_left
            · (intro W hSw; (try dsimp only at hSw); have C := BXN.out.later hSw; have e0 := C.at 0; have e1 := C.at 1; have e2 := C.at 2; have e3 := C.at 3; have e4 := C.at 4; have e5 := C.at 5; have e6 := C.at 6; have e7 := C.at 7; clear C; try simp only [reO20x5]; first | (go_simp; done) | (go_simp; with_reducible rfl))
            try simp only [reO20x5, Act.put, List.setIfInBounds_toArray, List.set_cons_zero, List.set_cons_succ]
            refine wpAnyH_take (i := 6) (oi := reO20x6) (v := ?_) rfl (by kernel_rfl) (by kernel_rfl) (by kernel_rfl) (fun _ _ _ h => h) (Or.inl ⟨by rfl, ?_⟩) (by assumption) ?_
            rotate_left
            · (intro W hSw; (try dsimp only at hSw); have C := BXN.out.later hSw; have e0 := C.at 0; have e1 := C.at 1; have e2 := C.at 2; have e3 := C.at 3; have e4 := C.at 4; have e5 := C.at 5; have e6 := C.at 6; have e7 := C.at 7; clear C; try simp only [reO20x6]; first | (go_simp; done) | (go_simp; with_reducible rfl))
            try simp only [reO20x6, Act.put, List.setIfInBounds_toArray, List.set_cons_zero, List.set_cons_succ]
            refine wpAnyH_take (i := 7) (oi := reO20x7) (v := ?_) rfl (by kernel_rfl) (by kernel_rfl) (by kernel_rfl) (fun _ _ _ h => h) (Or.inl ⟨by rfl, ?_⟩) (by assumption) ?_
            rotate_left
            · (intro W hSw; (try dsimp only at hSw); have C := BXN.out.later hSw; have e0 := C.at 0; have e1 := C.at 1; have e2 := C.at 2; have e3 := C.at 3; have e4 := C.at 4; have e5 := C.at 5; have e6 := C.at 6; have e7 := C.at 7; clear C; try simp only [reO20x7]; first | (go_simp; done) | (go_simp; with_reducible rfl))
            try simp only [reO20x7, Act.put, List.setIfInBounds_toArray, List.set_cons_zero, List.set_cons_succ]
            refine wpAnyH_ready (rs := [8]) (by kernel_rfl) (by simp) ?_
            refine AllReadyH.cons (o := reO20x8) rfl (fun K hK => ?_) AllReadyH.nil
            try simp only [reO20x8]
            go_simp
            go_wp2_with fail
            have hH2 : Below wn.heap.size wn _ := hHeld
            have Q3 := TT _ (below_trans Bn.out hH2)
            refine Q3.mono ?_
            rintro e w3 ⟨rfl, b3⟩
            have hb3 : Below wn.heap.size wn w3 := below_trans hH2 b3
            clear hH2
            have n7 := (BXN.out.later hb3).at 7
            have nl := (BXN.out.later hb3).lt
            have bx : Box w3 pv ⟨vk, vn, vm, vb⟩ := BXV.out.drew'.later b3
            have y0 := bx.at4.1; have y1 := bx.at4.2.1; have y2 := bx.at4.2.2.1; have y3 := bx.at4.2.2.2; have yl := bx.lt; have g0 := bx.free 0; have g1 := bx.free 1; have g2 := bx.free 2; have g3 := bx.free 3
            dsimp only at y0 y1 y2 y3
            simp only [Nat.zero_add] at y1 y2 y3
            clear bx
            refine hK.out _ _ ?_ (fun hHeld => ?_)
            · ((try dsimp only); exact below_trans hHeld b3)
            clear hK K
            try simp only [Act.put, List.setIfInBounds_toArray, List.set_cons_zero, List.set_cons_succ]
            refine wpAnyH_take (i := 9) (oi := reO20x9) (v := ?_) rfl (by kernel_rfl) (by kernel_rfl) (by kernel_rfl) (fun _ _ _ h => h) (Or.inl ⟨by rfl, ?_⟩) (by assumption) ?_
            rotate_left
            · (intro W hSw; (try dsimp only at hSw); have C := BXN.out.later hSw; have e0 := C.at 0; have e1 := C.at 1; have e2 := C.at 2; have e3 := C.at 3; have e4 := C.at 4; have e5 := C.at 5; have e6 := C.at 6; have e7 := C.at 7; clear C; try simp only [reO20x9]; first | (go_simp; done) | (go_simp; with_reducible rfl))
            try simp only [reO20x9, Act.put, List.setIfInBounds_toArray, List.set_cons_zero, List.set_cons_succ]
            refine wpAnyH_take (i := 10) (oi := reO20x10) (v := ?_) rfl (by kernel_rfl) (by kernel_rfl) (by kernel_rfl) (fun _ _ _ h => h) (Or.inl ⟨by rfl, ?_⟩) (by assumption) ?_
            rotate_left
            · (intro W hSw; (try dsimp only at hSw); have C := BXN.out.later hSw; have e0 := C.at 0; have e1 := C.at 1; have e2 := C.at 2; have e3 := C.at 3; have e4 := C.at 4; have e5 := C.at 5; have e6 := C.at 6; have e7 := C.at 7; clear C; try simp only [reO20x10]; first | (go_simp; done) | (go_simp; with_reducible rfl))
            try simp only [reO20x10, Act.put, List.setIfInBounds_toArray, List.set_cons_zero, List.set_cons_succ]
            refine wpAnyH_take (i := 11) (oi := reO20x11) (v := ?_) rfl (by kernel_rfl) (by kernel_rfl) (by kernel_rfl) (fun _ _ _ h => h) (Or.inl ⟨by rfl, ?_⟩) (by assumption) ?_
            rotate_left
            · (intro W hSw; (try dsimp only at hSw); have C := BXN.out.later hSw; have e0 := C.at 0; have e1 := C.at 1; have e2 := C.at 2; have e3 := C.at 3; have e4 := C.at 4; have e5 := C.at 5; have e6 := C.at 6; have e7 := C.at 7; clear C; try simp only [reO20x11]; first | (go_simp; done) | (go_simp; with_reducible rfl))
            try simp only [reO20x11, Act.put, List.setIfInBounds_toArray, List.set_cons_zero, List.set_cons_succ]
            refine wpAnyH_ready (rs := [12]) (by kernel_rfl) (by simp) ?_
            refine AllReadyH.cons (o := reO20x12) rfl (fun K hK => ?_) AllReadyH.nil
            try simp only [reO20x12]
            go_simp
            refine hK.out _ _ ?_ (fun hHeld => ?_)
            · ((try dsimp only); exact res_kept (q := pv) hHeld HPV.out _ _ _ _)
            clear hK K
            try simp only [Act.put, List.setIfInBounds_toArray, List.set_cons_zero, List.set_cons_succ]
            refine wpAnyH_take (i := 13) (oi := reO20x13) (v := ?_) rfl (by kernel_rfl) (by kernel_rfl) (by kernel_rfl) (fun _ _ _ h => h) (Or.inl ⟨by rfl, ?_⟩) (by assumption) ?_
            rotate_left
            · (intro W hSw; (try dsimp only at hSw); have C := BXN.out.later hSw; have e0 := C.at 0; have e1 := C.at 1; have e2 := C.at 2; have e3 := C.at 3; have e4 := C.at 4; have e5 := C.at 5; have e6 := C.at 6; have e7 := C.at 7; clear C; try simp only [reO20x13]; first | (go_simp; done) | (go_simp; with_reducible rfl))
            try simp only [reO20x13, Act.put, List.setIfInBounds_toArray, List.set_cons_zero, List.set_cons_succ]
            refine wpAnyH_done (by kernel_rfl) ?_ _
            go_wp2_with fail
            go_meet
            exact ⟨by first | rfl | (simp [go_sem]; done), rfl, fun _ => ⟨by simp (maxDischargeDepth := 12) [go_sem, y0], by simp (maxDischargeDepth := 12) [go_sem, y1], by simp (maxDischargeDepth := 12) [go_sem, y2], by simp (maxDischargeDepth := 12) [go_sem, y3]⟩, below_trans Bn0.out hHeld⟩
          · obtain ⟨g, rfl, hgb, hgl, hgc⟩ := SOM.out hsf
            have TT : ∀ W, Below wr.heap.size wr W → Calls Tryz.prog 52 #[.string ⟨xn.toArray⟩, .slice (some ⟨g, f * 4, none⟩) q (sc - f)] W fun e w' => e = .returned (.tuple #[va rk rn rm ⟨rb.toArray⟩, .int .i64 re]) ∧ Below W.heap.size W w' := fun W h => by
              have := FU.out xn (some ⟨g, f * 4, none⟩) (sc - f) (st.drop f) W (fun _ => ⟨g, f * 4, rfl, fun i hi => by
                rw [List.length_drop] at hi
                have := (hgc (f + i) (by omega)).later h
                rw [List.getElem_drop]
                have e : f * 4 + i * 4 = (f + i) * 4 := by omega
                rw [e]
                exact this⟩) (by rw [List.length_drop]; omega) (fun v hv => (mem_drop_gv HG.out v hv).2)
              rw [List.length_drop, hqe, HRC.out] at this
              exact this
            have hfsc : f ≤ sc := by omega
            have hqi : (st.length : Int) - (f : Int) = (q : Int) := by omega
            clear hgc
            have C := BXN.out.later HB2.out
            have e0 := C.at 0
            have el := C.lt
            clear C
            clear HRC HRS HST HGR SOM
            go_upto_region 20 with fail
            clear e0 el
            refine wp_region_held_drew (S := (fun W => Below wn.heap.size wn W)) (by kernel_rfl) ?_ (fun hHeld => ?_)
            · ((try dsimp only); exact HB2.out.drew)
            refine wpAnyH_take (i := 0) (oi := reO20x0) (v := ?_) rfl (by kernel_rfl) (by kernel_rfl) (by kernel_rfl) (fun _ _ _ h => h) (Or.inl ⟨by rfl, ?_⟩) (by assumption) ?_
            rotate_left
            · (intro W hSw; (try dsimp only at hSw); have C := BXN.out.later hSw; have e0 := C.at 0; have e1 := C.at 1; have e2 := C.at 2; have e3 := C.at 3; have e4 := C.at 4; have e5 := C.at 5; have e6 := C.at 6; have e7 := C.at 7; clear C; try simp only [reO20x0]; first | (go_simp; done) | (go_simp; with_reducible rfl))
            try simp only [reO20x0, Act.put, List.setIfInBounds_toArray, List.set_cons_zero, List.set_cons_succ]
            refine wpAnyH_take (i := 1) (oi := reO20x1) (v := ?_) rfl (by kernel_rfl) (by kernel_rfl) (by kernel_rfl) (fun _ _ _ h => h) (Or.inl ⟨by rfl, ?_⟩) (by assumption) ?_
            rotate_left
            · (intro W hSw; (try dsimp only at hSw); have C := BXN.out.later hSw; have e0 := C.at 0; have e1 := C.at 1; have e2 := C.at 2; have e3 := C.at 3; have e4 := C.at 4; have e5 := C.at 5; have e6 := C.at 6; have e7 := C.at 7; clear C; try simp only [reO20x1]; first | (go_simp; done) | (go_simp; with_reducible rfl))
            try simp only [reO20x1, Act.put, List.setIfInBounds_toArray, List.set_cons_zero, List.set_cons_succ]
            refine wpAnyH_take (i := 2) (oi := reO20x2) (v := ?_) rfl (by kernel_rfl) (by kernel_rfl) (by kernel_rfl) (fun _ _ _ h => h) (Or.inl ⟨by rfl, ?_⟩) (by assumption) ?_
            rotate_left
            · (intro W hSw; (try dsimp only at hSw); have C := BXN.out.later hSw; have e0 := C.at 0; have e1 := C.at 1; have e2 := C.at 2; have e3 := C.at 3; have e4 := C.at 4; have e5 := C.at 5; have e6 := C.at 6; have e7 := C.at 7; clear C; try simp only [reO20x2]; first | (go_simp; done) | (go_simp; with_reducible rfl))
            try simp only [reO20x2, Act.put, List.setIfInBounds_toArray, List.set_cons_zero, List.set_cons_succ]
            refine wpAnyH_take (i := 3) (oi := reO20x3) (v := ?_) rfl (by kernel_rfl) (by kernel_rfl) (by kernel_rfl) (fun _ _ _ h => h) (Or.inl ⟨by rfl, ?_⟩) (by assumption) ?_
            rotate_left
            · (intro W hSw; (try dsimp only at hSw); have C := BXN.out.later hSw; have e0 := C.at 0; have e1 := C.at 1; have e2 := C.at 2; have e3 := C.at 3; have e4 := C.at 4; have e5 := C.at 5; have e6 := C.at 6; have e7 := C.at 7; clear C; try simp only [reO20x3]; first | (go_simp; done) | (go_simp; with_reducible rfl))
            try simp only [reO20x3, Act.put, List.setIfInBounds_toArray, List.set_cons_zero, List.set_cons_succ]
            refine wpAnyH_take (i := 4) (oi := reO20x4) (v := ?_) rfl (by kernel_rfl) (by kernel_rfl) (by kernel_rfl) (fun _ _ _ h => h) (Or.inl ⟨by rfl, ?_⟩) (by assumption) ?_
            rotate_left
            · (intro W hSw; (try dsimp only at hSw); have C := BXN.out.later hSw; have e0 := C.at 0; have e1 := C.at 1; have e2 := C.at 2; have e3 := C.at 3; have e4 := C.at 4; have e5 := C.at 5; have e6 := C.at 6; have e7 := C.at 7; clear C; try simp only [reO20x4]; first | (go_simp; done) | (go_simp; with_reducible rfl))
            try simp only [reO20x4, Act.put, List.setIfInBounds_toArray, List.set_cons_zero, List.set_cons_succ]
            refine wpAnyH_take (i := 5) (oi := reO20x5) (v := ?_) rfl (by kernel_rfl) (by kernel_rfl) (by kernel_rfl) (fun _ _ _ h => h) (Or.inl ⟨by rfl, ?_⟩) (by assumption) ?_
            rotate_left
            · (intro W hSw; (try dsimp only at hSw); have C := BXN.out.later hSw; have e0 := C.at 0; have e1 := C.at 1; have e2 := C.at 2; have e3 := C.at 3; have e4 := C.at 4; have e5 := C.at 5; have e6 := C.at 6; have e7 := C.at 7; clear C; try simp only [reO20x5]; first | (go_simp; done) | (go_simp; with_reducible rfl))
            try simp only [reO20x5, Act.put, List.setIfInBounds_toArray, List.set_cons_zero, List.set_cons_succ]
            refine wpAnyH_take (i := 6) (oi := reO20x6) (v := ?_) rfl (by kernel_rfl) (by kernel_rfl) (by kernel_rfl) (fun _ _ _ h => h) (Or.inl ⟨by rfl, ?_⟩) (by assumption) ?_
            rotate_left
            · (intro W hSw; (try dsimp only at hSw); have C := BXN.out.later hSw; have e0 := C.at 0; have e1 := C.at 1; have e2 := C.at 2; have e3 := C.at 3; have e4 := C.at 4; have e5 := C.at 5; have e6 := C.at 6; have e7 := C.at 7; clear C; try simp only [reO20x6]; first | (go_simp; done) | (go_simp; with_reducible rfl))
            try simp only [reO20x6, Act.put, List.setIfInBounds_toArray, List.set_cons_zero, List.set_cons_succ]
            refine wpAnyH_take (i := 7) (oi := reO20x7) (v := ?_) rfl (by kernel_rfl) (by kernel_rfl) (by kernel_rfl) (fun _ _ _ h => h) (Or.inl ⟨by rfl, ?_⟩) (by assumption) ?_
            rotate_left
            · (intro W hSw; (try dsimp only at hSw); have C := BXN.out.later hSw; have e0 := C.at 0; have e1 := C.at 1; have e2 := C.at 2; have e3 := C.at 3; have e4 := C.at 4; have e5 := C.at 5; have e6 := C.at 6; have e7 := C.at 7; clear C; try simp only [reO20x7]; first | (go_simp; done) | (go_simp; with_reducible rfl))
            try simp only [reO20x7, Act.put, List.setIfInBounds_toArray, List.set_cons_zero, List.set_cons_succ]
            refine wpAnyH_ready (rs := [8]) (by kernel_rfl) (by simp) ?_
            refine AllReadyH.cons (o := reO20x8) rfl (fun K hK => ?_) AllReadyH.nil
            try simp only [reO20x8]
            go_simp
            go_wp2_with fail
            have hH2 : Below wn.heap.size wn _ := hHeld
            have Q3 := TT _ (below_trans Bn0.out hH2)
            refine Q3.mono ?_
            rintro e w3 ⟨rfl, b3⟩
            have hb3 : Below wn.heap.size wn w3 := below_trans hH2 b3
            clear hH2
            have n7 := (BXN.out.later hb3).at 7
            have nl := (BXN.out.later hb3).lt
            have bx : Box w3 pv ⟨vk, vn, vm, vb⟩ := BXV.out.drew'.later b3
            have y0 := bx.at4.1; have y1 := bx.at4.2.1; have y2 := bx.at4.2.2.1; have y3 := bx.at4.2.2.2; have yl := bx.lt; have g0 := bx.free 0; have g1 := bx.free 1; have g2 := bx.free 2; have g3 := bx.free 3
            dsimp only at y0 y1 y2 y3
            simp only [Nat.zero_add] at y1 y2 y3
            clear bx
            refine hK.out _ _ ?_ (fun hHeld => ?_)
            · ((try dsimp only); exact below_trans hHeld b3)
            clear hK K
            try simp only [Act.put, List.setIfInBounds_toArray, List.set_cons_zero, List.set_cons_succ]
            refine wpAnyH_take (i := 9) (oi := reO20x9) (v := ?_) rfl (by kernel_rfl) (by kernel_rfl) (by kernel_rfl) (fun _ _ _ h => h) (Or.inl ⟨by rfl, ?_⟩) (by assumption) ?_
            rotate_left
            · (intro W hSw; (try dsimp only at hSw); have C := BXN.out.later hSw; have e0 := C.at 0; have e1 := C.at 1; have e2 := C.at 2; have e3 := C.at 3; have e4 := C.at 4; have e5 := C.at 5; have e6 := C.at 6; have e7 := C.at 7; clear C; try simp only [reO20x9]; first | (go_simp; done) | (go_simp; with_reducible rfl))
            try simp only [reO20x9, Act.put, List.setIfInBounds_toArray, List.set_cons_zero, List.set_cons_succ]
            refine wpAnyH_take (i := 10) (oi := reO20x10) (v := ?_) rfl (by kernel_rfl) (by kernel_rfl) (by kernel_rfl) (fun _ _ _ h => h) (Or.inl ⟨by rfl, ?_⟩) (by assumption) ?_
            rotate_left
            · (intro W hSw; (try dsimp only at hSw); have C := BXN.out.later hSw; have e0 := C.at 0; have e1 := C.at 1; have e2 := C.at 2; have e3 := C.at 3; have e4 := C.at 4; have e5 := C.at 5; have e6 := C.at 6; have e7 := C.at 7; clear C; try simp only [reO20x10]; first | (go_simp; done) | (go_simp; with_reducible rfl))
            try simp only [reO20x10, Act.put, List.setIfInBounds_toArray, List.set_cons_zero, List.set_cons_succ]
            refine wpAnyH_take (i := 11) (oi := reO20x11) (v := ?_) rfl (by kernel_rfl) (by kernel_rfl) (by kernel_rfl) (fun _ _ _ h => h) (Or.inl ⟨by rfl, ?_⟩) (by assumption) ?_
            rotate_left
            · (intro W hSw; (try dsimp only at hSw); have C := BXN.out.later hSw; have e0 := C.at 0; have e1 := C.at 1; have e2 := C.at 2; have e3 := C.at 3; have e4 := C.at 4; have e5 := C.at 5; have e6 := C.at 6; have e7 := C.at 7; clear C; try simp only [reO20x11]; first | (go_simp; done) | (go_simp; with_reducible rfl))
            try simp only [reO20x11, Act.put, List.setIfInBounds_toArray, List.set_cons_zero, List.set_cons_succ]
            refine wpAnyH_ready (rs := [12]) (by kernel_rfl) (by simp) ?_
            refine AllReadyH.cons (o := reO20x12) rfl (fun K hK => ?_) AllReadyH.nil
            try simp only [reO20x12]
            go_simp
            refine hK.out _ _ ?_ (fun hHeld => ?_)
            · ((try dsimp only); exact res_kept (q := pv) hHeld HPV.out _ _ _ _)
            clear hK K
            try simp only [Act.put, List.setIfInBounds_toArray, List.set_cons_zero, List.set_cons_succ]
            refine wpAnyH_take (i := 13) (oi := reO20x13) (v := ?_) rfl (by kernel_rfl) (by kernel_rfl) (by kernel_rfl) (fun _ _ _ h => h) (Or.inl ⟨by rfl, ?_⟩) (by assumption) ?_
            rotate_left
            · (intro W hSw; (try dsimp only at hSw); have C := BXN.out.later hSw; have e0 := C.at 0; have e1 := C.at 1; have e2 := C.at 2; have e3 := C.at 3; have e4 := C.at 4; have e5 := C.at 5; have e6 := C.at 6; have e7 := C.at 7; clear C; try simp only [reO20x13]; first | (go_simp; done) | (go_simp; with_reducible rfl))
            try simp only [reO20x13, Act.put, List.setIfInBounds_toArray, List.set_cons_zero, List.set_cons_succ]
            refine wpAnyH_done (by kernel_rfl) ?_ _
            go_wp2_with fail
            go_meet
            exact ⟨by first | rfl | (simp [go_sem]; done), rfl, fun _ => ⟨by simp (maxDischargeDepth := 12) [go_sem, y0], by simp (maxDischargeDepth := 12) [go_sem, y1], by simp (maxDischargeDepth := 12) [go_sem, y2], by simp (maxDischargeDepth := 12) [go_sem, y3]⟩, below_trans Bn0.out hHeld⟩
        by_cases h5 : xo ≤ 5
        · -- an op of one
          obtain rfl : q = 1 := by have := HQ.out; unfold opsN at this; dsimp only at this; rw [if_neg h3, if_neg (by omega), if_pos (by have := HOR.out h1 h2 h3; omega)] at this; omega
          have hsf : ¬ sc = f := by omega
          obtain ⟨g, rfl, hgb, hgl, hgc⟩ := SOM.out hsf
          have hfl1 : f < st.length := by omega
          have HUN : Hid (unR xo st[f] = (⟨rk, rn, rm, rb⟩, re)) := by
            have h := HRS.out
            unfold stpR at h
            dsimp only at h
            rw [if_neg h1, if_neg h2, if_neg h3, if_pos (by rw [List.length_drop]; omega)] at h
            have e : (st.drop f).getD 0 nul = st[f] := by rw [List.getD_eq_getElem?_getD, List.getElem?_drop, Nat.add_zero, List.getElem?_eq_getElem hfl1]; rfl
            rw [e] at h
            exact h
          have ga := HG.out st[f] (List.getElem_mem _)
          have hca := hgc f hfl1
          generalize st[f] = a at *
          obtain ⟨ak, an, am, ab⟩ := a
          have GA : Hid (∀ W, Below wn.heap.size wn W → At4 W g (f * 4) ⟨ak, an, am, ab⟩) := fun W h => hca.later (below_trans Bn0.out h)
          have TT : ∀ W, Calls Tryz.prog 53 #[.int .i64 xo, va ak an am ⟨ab.toArray⟩] W fun e w' => e = .returned (.tuple #[va rk rn rm ⟨rb.toArray⟩, .int .i64 re]) ∧ Below W.heap.size W w' := fun W => by
            have := UN.out xo ⟨ak, an, am, ab⟩ W ga.2
            rw [HUN.out] at this
            exact this
          have hfr1 : (st.length : Int) - 1 = (f : Int) := by omega
          have hfl2 : (f : Int) < (st.length : Int) := by omega
          have hq0' : (0 : Int) ≤ (f : Int) := by omega
          have h5' : xo ≤ 5 := h5
          clear hgc hca HUN ga
          have C := BXN.out.later HB2.out
          have e0 := C.at 0
          have el := C.lt
          clear C
          clear HRS HST HGR SOM
          go_upto_region 23 with fail
          clear e0 el
          refine wp_region_held_drew (S := (fun W => Below wn.heap.size wn W)) (by kernel_rfl) ?_ (fun hHeld => ?_)
          · ((try dsimp only); exact HB2.out.drew)
          refine wpAnyH_take (i := 0) (oi := reO23x0) (v := ?_) rfl (by kernel_rfl) (by kernel_rfl) (by kernel_rfl) (fun _ _ _ h => h) (Or.inl ⟨by rfl, ?_⟩) (by assumption) ?_
          rotate_left
          · (intro W hSw; (try dsimp only at hSw); have C := BXN.out.later hSw; have e0 := C.at 0; have e1 := C.at 1; have e2 := C.at 2; have e3 := C.at 3; have e4 := C.at 4; have e5 := C.at 5; have e6 := C.at 6; have e7 := C.at 7; clear C; have D := GA.out _ hSw; have dl := D.lt; obtain ⟨d0, d1, d2, d3⟩ := D; dsimp only at d0 d1 d2 d3; try simp only [reO23x0]; first | (go_simp; done) | (go_simp; with_reducible rfl))
          try simp only [reO23x0, Act.put, List.setIfInBounds_toArray, List.set_cons_zero, List.set_cons_succ]
          refine wpAnyH_take (i := 1) (oi := reO23x1) (v := ?_) rfl (by kernel_rfl) (by kernel_rfl) (by kernel_rfl) (fun _ _ _ h => h) (Or.inl ⟨by rfl, ?_⟩) (by assumption) ?_
          rotate_left
          · (intro W hSw; (try dsimp only at hSw); have C := BXN.out.later hSw; have e0 := C.at 0; have e1 := C.at 1; have e2 := C.at 2; have e3 := C.at 3; have e4 := C.at 4; have e5 := C.at 5; have e6 := C.at 6; have e7 := C.at 7; clear C; have D := GA.out _ hSw; have dl := D.lt; obtain ⟨d0, d1, d2, d3⟩ := D; dsimp only at d0 d1 d2 d3; try simp only [reO23x1]; first | (go_simp; done) | (go_simp; with_reducible rfl))
          try simp only [reO23x1, Act.put, List.setIfInBounds_toArray, List.set_cons_zero, List.set_cons_succ]
          refine wpAnyH_take (i := 2) (oi := reO23x2) (v := ?_) rfl (by kernel_rfl) (by kernel_rfl) (by kernel_rfl) (fun _ _ _ h => h) (Or.inl ⟨by rfl, ?_⟩) (by assumption) ?_
          rotate_left
          · (intro W hSw; (try dsimp only at hSw); have C := BXN.out.later hSw; have e0 := C.at 0; have e1 := C.at 1; have e2 := C.at 2; have e3 := C.at 3; have e4 := C.at 4; have e5 := C.at 5; have e6 := C.at 6; have e7 := C.at 7; clear C; have D := GA.out _ hSw; have dl := D.lt; obtain ⟨d0, d1, d2, d3⟩ := D; dsimp only at d0 d1 d2 d3; try simp only [reO23x2]; first | (go_simp; done) | (go_simp; with_reducible rfl))
          try simp only [reO23x2, Act.put, List.setIfInBounds_toArray, List.set_cons_zero, List.set_cons_succ]
          refine wpAnyH_take (i := 3) (oi := reO23x3) (v := ?_) rfl (by kernel_rfl) (by kernel_rfl) (by kernel_rfl) (fun _ _ _ h => h) (Or.inl ⟨by rfl, ?_⟩) (by assumption) ?_
          rotate_left
          · (intro W hSw; (try dsimp only at hSw); have C := BXN.out.later hSw; have e0 := C.at 0; have e1 := C.at 1; have e2 := C.at 2; have e3 := C.at 3; have e4 := C.at 4; have e5 := C.at 5; have e6 := C.at 6; have e7 := C.at 7; clear C; have D := GA.out _ hSw; have dl := D.lt; obtain ⟨d0, d1, d2, d3⟩ := D; dsimp only at d0 d1 d2 d3; try simp only [reO23x3]; first | (go_simp; done) | (go_simp; with_reducible rfl))
          try simp only [reO23x3, Act.put, List.setIfInBounds_toArray, List.set_cons_zero, List.set_cons_succ]
          refine wpAnyH_take (i := 4) (oi := reO23x4) (v := ?_) rfl (by kernel_rfl) (by kernel_rfl) (by kernel_rfl) (fun _ _ _ h => h) (Or.inl ⟨by rfl, ?_⟩) (by assumption) ?_
          rotate_left
          · (intro W hSw; (try dsimp only at hSw); have C := BXN.out.later hSw; have e0 := C.at 0; have e1 := C.at 1; have e2 := C.at 2; have e3 := C.at 3; have e4 := C.at 4; have e5 := C.at 5; have e6 := C.at 6; have e7 := C.at 7; clear C; have D := GA.out _ hSw; have dl := D.lt; obtain ⟨d0, d1, d2, d3⟩ := D; dsimp only at d0 d1 d2 d3; try simp only [reO23x4]; first | (go_simp; done) | (go_simp; with_reducible rfl))
          try simp only [reO23x4, Act.put, List.setIfInBounds_toArray, List.set_cons_zero, List.set_cons_succ]
          refine wpAnyH_take (i := 5) (oi := reO23x5) (v := ?_) rfl (by kernel_rfl) (by kernel_rfl) (by kernel_rfl) (fun _ _ _ h => h) (Or.inl ⟨by rfl, ?_⟩) (by assumption) ?_
          rotate_left
          · (intro W hSw; (try dsimp only at hSw); have C := BXN.out.later hSw; have e0 := C.at 0; have e1 := C.at 1; have e2 := C.at 2; have e3 := C.at 3; have e4 := C.at 4; have e5 := C.at 5; have e6 := C.at 6; have e7 := C.at 7; clear C; have D := GA.out _ hSw; have dl := D.lt; obtain ⟨d0, d1, d2, d3⟩ := D; dsimp only at d0 d1 d2 d3; try simp only [reO23x5]; first | (go_simp; done) | (go_simp; with_reducible rfl))
          try simp only [reO23x5, Act.put, List.setIfInBounds_toArray, List.set_cons_zero, List.set_cons_succ]
          refine wpAnyH_take (i := 6) (oi := reO23x6) (v := ?_) rfl (by kernel_rfl) (by kernel_rfl) (by kernel_rfl) (fun _ _ _ h => h) (Or.inl ⟨by rfl, ?_⟩) (by assumption) ?_
          rotate_left
          · (intro W hSw; (try dsimp only at hSw); have C := BXN.out.later hSw; have e0 := C.at 0; have e1 := C.at 1; have e2 := C.at 2; have e3 := C.at 3; have e4 := C.at 4; have e5 := C.at 5; have e6 := C.at 6; have e7 := C.at 7; clear C; have D := GA.out _ hSw; have dl := D.lt; obtain ⟨d0, d1, d2, d3⟩ := D; dsimp only at d0 d1 d2 d3; try simp only [reO23x6]; first | (go_simp; done) | (go_simp; with_reducible rfl))
          try simp only [reO23x6, Act.put, List.setIfInBounds_toArray, List.set_cons_zero, List.set_cons_succ]
          refine wpAnyH_ready (rs := [7]) (by kernel_rfl) (by simp) ?_
          refine AllReadyH.cons (o := reO23x7) rfl (fun K hK => ?_) AllReadyH.nil
          try simp only [reO23x7]
          go_simp
          go_wp2_with fail
          have hH2 : Below wn.heap.size wn _ := hHeld
          refine (TT _).mono ?_
          rintro e w3 ⟨rfl, b3⟩
          have hb3 : Below wn.heap.size wn w3 := below_trans hH2 b3
          clear hH2
          have n7 := (BXN.out.later hb3).at 7
          have nl := (BXN.out.later hb3).lt
          have bx : Box w3 pv ⟨vk, vn, vm, vb⟩ := BXV.out.drew'.later b3
          have y0 := bx.at4.1; have y1 := bx.at4.2.1; have y2 := bx.at4.2.2.1; have y3 := bx.at4.2.2.2; have yl := bx.lt; have g0 := bx.free 0; have g1 := bx.free 1; have g2 := bx.free 2; have g3 := bx.free 3
          dsimp only at y0 y1 y2 y3
          simp only [Nat.zero_add] at y1 y2 y3
          clear bx
          refine hK.out _ _ ?_ (fun hHeld => ?_)
          · ((try dsimp only); exact below_trans hHeld b3)
          clear hK K
          try simp only [Act.put, List.setIfInBounds_toArray, List.set_cons_zero, List.set_cons_succ]
          refine wpAnyH_take (i := 8) (oi := reO23x8) (v := ?_) rfl (by kernel_rfl) (by kernel_rfl) (by kernel_rfl) (fun _ _ _ h => h) (Or.inl ⟨by rfl, ?_⟩) (by assumption) ?_
          rotate_left
          · (intro W hSw; (try dsimp only at hSw); have C := BXN.out.later hSw; have e0 := C.at 0; have e1 := C.at 1; have e2 := C.at 2; have e3 := C.at 3; have e4 := C.at 4; have e5 := C.at 5; have e6 := C.at 6; have e7 := C.at 7; clear C; have D := GA.out _ hSw; have dl := D.lt; obtain ⟨d0, d1, d2, d3⟩ := D; dsimp only at d0 d1 d2 d3; try simp only [reO23x8]; first | (go_simp; done) | (go_simp; with_reducible rfl))
          try simp only [reO23x8, Act.put, List.setIfInBounds_toArray, List.set_cons_zero, List.set_cons_succ]
          refine wpAnyH_take (i := 9) (oi := reO23x9) (v := ?_) rfl (by kernel_rfl) (by kernel_rfl) (by kernel_rfl) (fun _ _ _ h => h) (Or.inl ⟨by rfl, ?_⟩) (by assumption) ?_
          rotate_left
          · (intro W hSw; (try dsimp only at hSw); have C := BXN.out.later hSw; have e0 := C.at 0; have e1 := C.at 1; have e2 := C.at 2; have e3 := C.at 3; have e4 := C.at 4; have e5 := C.at 5; have e6 := C.at 6; have e7 := C.at 7; clear C; have D := GA.out _ hSw; have dl := D.lt; obtain ⟨d0, d1, d2, d3⟩ := D; dsimp only at d0 d1 d2 d3; try simp only [reO23x9]; first | (go_simp; done) | (go_simp; with_reducible rfl))
          try simp only [reO23x9, Act.put, List.setIfInBounds_toArray, List.set_cons_zero, List.set_cons_succ]
          refine wpAnyH_take (i := 10) (oi := reO23x10) (v := ?_) rfl (by kernel_rfl) (by kernel_rfl) (by kernel_rfl) (fun _ _ _ h => h) (Or.inl ⟨by rfl, ?_⟩) (by assumption) ?_
          rotate_left
          · (intro W hSw; (try dsimp only at hSw); have C := BXN.out.later hSw; have e0 := C.at 0; have e1 := C.at 1; have e2 := C.at 2; have e3 := C.at 3; have e4 := C.at 4; have e5 := C.at 5; have e6 := C.at 6; have e7 := C.at 7; clear C; have D := GA.out _ hSw; have dl := D.lt; obtain ⟨d0, d1, d2, d3⟩ := D; dsimp only at d0 d1 d2 d3; try simp only [reO23x10]; first | (go_simp; done) | (go_simp; with_reducible rfl))
          try simp only [reO23x10, Act.put, List.setIfInBounds_toArray, List.set_cons_zero, List.set_cons_succ]
          refine wpAnyH_ready (rs := [11]) (by kernel_rfl) (by simp) ?_
          refine AllReadyH.cons (o := reO23x11) rfl (fun K hK => ?_) AllReadyH.nil
          try simp only [reO23x11]
          go_simp
          refine hK.out _ _ ?_ (fun hHeld => ?_)
          · ((try dsimp only); exact res_kept (q := pv) hHeld HPV.out _ _ _ _)
          clear hK K
          try simp only [Act.put, List.setIfInBounds_toArray, List.set_cons_zero, List.set_cons_succ]
          refine wpAnyH_take (i := 12) (oi := reO23x12) (v := ?_) rfl (by kernel_rfl) (by kernel_rfl) (by kernel_rfl) (fun _ _ _ h => h) (Or.inl ⟨by rfl, ?_⟩) (by assumption) ?_
          rotate_left
          · (intro W hSw; (try dsimp only at hSw); have C := BXN.out.later hSw; have e0 := C.at 0; have e1 := C.at 1; have e2 := C.at 2; have e3 := C.at 3; have e4 := C.at 4; have e5 := C.at 5; have e6 := C.at 6; have e7 := C.at 7; clear C; have D := GA.out _ hSw; have dl := D.lt; obtain ⟨d0, d1, d2, d3⟩ := D; dsimp only at d0 d1 d2 d3; try simp only [reO23x12]; first | (go_simp; done) | (go_simp; with_reducible rfl))
          try simp only [reO23x12, Act.put, List.setIfInBounds_toArray, List.set_cons_zero, List.set_cons_succ]
          refine wpAnyH_done (by kernel_rfl) ?_ _
          go_wp2_with fail
          go_meet
          exact ⟨by first | rfl | (simp [go_sem]; done), rfl, fun _ => ⟨by simp (maxDischargeDepth := 12) [go_sem, y0], by simp (maxDischargeDepth := 12) [go_sem, y1], by simp (maxDischargeDepth := 12) [go_sem, y2], by simp (maxDischargeDepth := 12) [go_sem, y3]⟩, below_trans Bn0.out hHeld⟩
        -- an op of two
        obtain rfl : q = 2 := by have := HQ.out; unfold opsN at this; dsimp only at this; rw [if_neg h3, if_pos (by omega)] at this; omega
        have hsf : ¬ sc = f := by omega
        obtain ⟨g, rfl, hgb, hgl, hgc⟩ := SOM.out hsf
        obtain ⟨f1, hf1⟩ : ∃ f1, f1 = f + 1 := ⟨_, rfl⟩
        have hfl1 : f < st.length := by omega
        have hfl3 : f1 < st.length := by omega
        have HUN : Hid (binR xo st[f] st[f1] = (⟨rk, rn, rm, rb⟩, re)) := by
          have h := HRS.out
          unfold stpR at h
          dsimp only at h
          rw [if_neg h1, if_neg h2, if_neg h3, if_neg (by rw [List.length_drop]; omega)] at h
          have e : (st.drop f).getD 0 nul = st[f] := by rw [List.getD_eq_getElem?_getD, List.getElem?_drop, Nat.add_zero, List.getElem?_eq_getElem hfl1]; rfl
          have e' : (st.drop f).getD 1 nul = st[f1] := by subst hf1; rw [List.getD_eq_getElem?_getD, List.getElem?_drop, List.getElem?_eq_getElem hfl3]; rfl
          rw [e, e'] at h
          exact h
        have ga := HG.out st[f] (List.getElem_mem _)
        have gb := HG.out st[f1] (List.getElem_mem _)
        have hca := hgc f hfl1
        have hcb := hgc f1 hfl3
        generalize st[f] = a at *
        generalize st[f1] = b at *
        obtain ⟨ak, an, am, ab⟩ := a
        obtain ⟨bk, bn, bm, bb⟩ := b
        have GA : Hid (∀ W, Below wn.heap.size wn W → At4 W g (f * 4) ⟨ak, an, am, ab⟩) := fun W h => hca.later (below_trans Bn0.out h)
        have GB : Hid (∀ W, Below wn.heap.size wn W → At4 W g (f1 * 4) ⟨bk, bn, bm, bb⟩) := fun W h => hcb.later (below_trans Bn0.out h)
        have TT : ∀ W, Calls Tryz.prog 54 #[.int .i64 xo, va ak an am ⟨ab.toArray⟩, va bk bn bm ⟨bb.toArray⟩] W fun e w' => e = .returned (.tuple #[va rk rn rm ⟨rb.toArray⟩, .int .i64 re]) ∧ Below W.heap.size W w' := fun W => by
          have := BI.out xo ⟨ak, an, am, ab⟩ ⟨bk, bn, bm, bb⟩ W ga.2 gb.2
          rw [HUN.out] at this
          exact this
        have hfr1 : (st.length : Int) - 1 = (f1 : Int) := by omega
        have hfr2 : (st.length : Int) - 2 = (f : Int) := by omega
        have hwf1 : IntKind.i64.wrap (f1 : Int) = (f1 : Int) := by rw [IntKind.wrap_i64]; omega
        have hfl2 : (f : Int) < (st.length : Int) := by omega
        have hfl4 : (f1 : Int) < (st.length : Int) := by omega
        have hq0' : (0 : Int) ≤ (f : Int) := by omega
        have hq1' : (0 : Int) ≤ (f1 : Int) := by omega
        have h5' : ¬ xo ≤ 5 := h5
        clear hgc hca hcb HUN ga gb hf1
        have C := BXN.out.later HB2.out
        have e0 := C.at 0
        have el := C.lt
        clear C
        clear HRS HST HGR SOM
        go_upto_region 11 with fail
        clear e0 el
        refine wp_region_held_drew (S := (fun W => Below wn.heap.size wn W)) (by kernel_rfl) ?_ (fun hHeld => ?_)
        · ((try dsimp only); exact HB2.out.drew)
        refine wpAnyH_take (i := 0) (oi := reO11x0) (v := ?_) rfl (by kernel_rfl) (by kernel_rfl) (by kernel_rfl) (fun _ _ _ h => h) (Or.inl ⟨by rfl, ?_⟩) (by assumption) ?_
        rotate_left
        · (intro W hSw; (try dsimp only at hSw); have C := BXN.out.later hSw; have e0 := C.at 0; have e1 := C.at 1; have e2 := C.at 2; have e3 := C.at 3; have e4 := C.at 4; have e5 := C.at 5; have e6 := C.at 6; have e7 := C.at 7; clear C; have D := GA.out _ hSw; have dl := D.lt; obtain ⟨d0, d1, d2, d3⟩ := D; dsimp only at d0 d1 d2 d3; have F := GB.out _ hSw; have fl := F.lt; obtain ⟨f0, f1, f2, f3⟩ := F; dsimp only at f0 f1 f2 f3; try simp only [reO11x0]; first | (go_simp; done) | (go_simp; with_reducible rfl))
        try simp only [reO11x0, Act.put, List.setIfInBounds_toArray, List.set_cons_zero, List.set_cons_succ]
        refine wpAnyH_take (i := 1) (oi := reO11x1) (v := ?_) rfl (by kernel_rfl) (by kernel_rfl) (by kernel_rfl) (fun _ _ _ h => h) (Or.inl ⟨by rfl, ?_⟩) (by assumption) ?_
        rotate_left
        · (intro W hSw; (try dsimp only at hSw); have C := BXN.out.later hSw; have e0 := C.at 0; have e1 := C.at 1; have e2 := C.at 2; have e3 := C.at 3; have e4 := C.at 4; have e5 := C.at 5; have e6 := C.at 6; have e7 := C.at 7; clear C; have D := GA.out _ hSw; have dl := D.lt; obtain ⟨d0, d1, d2, d3⟩ := D; dsimp only at d0 d1 d2 d3; have F := GB.out _ hSw; have fl := F.lt; obtain ⟨f0, f1, f2, f3⟩ := F; dsimp only at f0 f1 f2 f3; try simp only [reO11x1]; first | (go_simp; done) | (go_simp; with_reducible rfl))
        try simp only [reO11x1, Act.put, List.setIfInBounds_toArray, List.set_cons_zero, List.set_cons_succ]
        refine wpAnyH_take (i := 2) (oi := reO11x2) (v := ?_) rfl (by kernel_rfl) (by kernel_rfl) (by kernel_rfl) (fun _ _ _ h => h) (Or.inl ⟨by rfl, ?_⟩) (by assumption) ?_
        rotate_left
        · (intro W hSw; (try dsimp only at hSw); have C := BXN.out.later hSw; have e0 := C.at 0; have e1 := C.at 1; have e2 := C.at 2; have e3 := C.at 3; have e4 := C.at 4; have e5 := C.at 5; have e6 := C.at 6; have e7 := C.at 7; clear C; have D := GA.out _ hSw; have dl := D.lt; obtain ⟨d0, d1, d2, d3⟩ := D; dsimp only at d0 d1 d2 d3; have F := GB.out _ hSw; have fl := F.lt; obtain ⟨f0, f1, f2, f3⟩ := F; dsimp only at f0 f1 f2 f3; try simp only [reO11x2]; first | (go_simp; done) | (go_simp; with_reducible rfl))
        try simp only [reO11x2, Act.put, List.setIfInBounds_toArray, List.set_cons_zero, List.set_cons_succ]
        refine wpAnyH_take (i := 3) (oi := reO11x3) (v := ?_) rfl (by kernel_rfl) (by kernel_rfl) (by kernel_rfl) (fun _ _ _ h => h) (Or.inl ⟨by rfl, ?_⟩) (by assumption) ?_
        rotate_left
        · (intro W hSw; (try dsimp only at hSw); have C := BXN.out.later hSw; have e0 := C.at 0; have e1 := C.at 1; have e2 := C.at 2; have e3 := C.at 3; have e4 := C.at 4; have e5 := C.at 5; have e6 := C.at 6; have e7 := C.at 7; clear C; have D := GA.out _ hSw; have dl := D.lt; obtain ⟨d0, d1, d2, d3⟩ := D; dsimp only at d0 d1 d2 d3; have F := GB.out _ hSw; have fl := F.lt; obtain ⟨f0, f1, f2, f3⟩ := F; dsimp only at f0 f1 f2 f3; try simp only [reO11x3]; first | (go_simp; done) | (go_simp; with_reducible rfl))
        try simp only [reO11x3, Act.put, List.setIfInBounds_toArray, List.set_cons_zero, List.set_cons_succ]
        refine wpAnyH_take (i := 4) (oi := reO11x4) (v := ?_) rfl (by kernel_rfl) (by kernel_rfl) (by kernel_rfl) (fun _ _ _ h => h) (Or.inl ⟨by rfl, ?_⟩) (by assumption) ?_
        rotate_left
        · (intro W hSw; (try dsimp only at hSw); have C := BXN.out.later hSw; have e0 := C.at 0; have e1 := C.at 1; have e2 := C.at 2; have e3 := C.at 3; have e4 := C.at 4; have e5 := C.at 5; have e6 := C.at 6; have e7 := C.at 7; clear C; have D := GA.out _ hSw; have dl := D.lt; obtain ⟨d0, d1, d2, d3⟩ := D; dsimp only at d0 d1 d2 d3; have F := GB.out _ hSw; have fl := F.lt; obtain ⟨f0, f1, f2, f3⟩ := F; dsimp only at f0 f1 f2 f3; try simp only [reO11x4]; first | (go_simp; done) | (go_simp; with_reducible rfl))
        try simp only [reO11x4, Act.put, List.setIfInBounds_toArray, List.set_cons_zero, List.set_cons_succ]
        refine wpAnyH_take (i := 5) (oi := reO11x5) (v := ?_) rfl (by kernel_rfl) (by kernel_rfl) (by kernel_rfl) (fun _ _ _ h => h) (Or.inl ⟨by rfl, ?_⟩) (by assumption) ?_
        rotate_left
        · (intro W hSw; (try dsimp only at hSw); have C := BXN.out.later hSw; have e0 := C.at 0; have e1 := C.at 1; have e2 := C.at 2; have e3 := C.at 3; have e4 := C.at 4; have e5 := C.at 5; have e6 := C.at 6; have e7 := C.at 7; clear C; have D := GA.out _ hSw; have dl := D.lt; obtain ⟨d0, d1, d2, d3⟩ := D; dsimp only at d0 d1 d2 d3; have F := GB.out _ hSw; have fl := F.lt; obtain ⟨f0, f1, f2, f3⟩ := F; dsimp only at f0 f1 f2 f3; try simp only [reO11x5]; first | (go_simp; done) | (go_simp; with_reducible rfl))
        try simp only [reO11x5, Act.put, List.setIfInBounds_toArray, List.set_cons_zero, List.set_cons_succ]
        refine wpAnyH_take (i := 6) (oi := reO11x6) (v := ?_) rfl (by kernel_rfl) (by kernel_rfl) (by kernel_rfl) (fun _ _ _ h => h) (Or.inl ⟨by rfl, ?_⟩) (by assumption) ?_
        rotate_left
        · (intro W hSw; (try dsimp only at hSw); have C := BXN.out.later hSw; have e0 := C.at 0; have e1 := C.at 1; have e2 := C.at 2; have e3 := C.at 3; have e4 := C.at 4; have e5 := C.at 5; have e6 := C.at 6; have e7 := C.at 7; clear C; have D := GA.out _ hSw; have dl := D.lt; obtain ⟨d0, d1, d2, d3⟩ := D; dsimp only at d0 d1 d2 d3; have F := GB.out _ hSw; have fl := F.lt; obtain ⟨f0, f1, f2, f3⟩ := F; dsimp only at f0 f1 f2 f3; try simp only [reO11x6]; first | (go_simp; done) | (go_simp; with_reducible rfl))
        try simp only [reO11x6, Act.put, List.setIfInBounds_toArray, List.set_cons_zero, List.set_cons_succ]
        refine wpAnyH_take (i := 7) (oi := reO11x7) (v := ?_) rfl (by kernel_rfl) (by kernel_rfl) (by kernel_rfl) (fun _ _ _ h => h) (Or.inl ⟨by rfl, ?_⟩) (by assumption) ?_
        rotate_left
        · (intro W hSw; (try dsimp only at hSw); have C := BXN.out.later hSw; have e0 := C.at 0; have e1 := C.at 1; have e2 := C.at 2; have e3 := C.at 3; have e4 := C.at 4; have e5 := C.at 5; have e6 := C.at 6; have e7 := C.at 7; clear C; have D := GA.out _ hSw; have dl := D.lt; obtain ⟨d0, d1, d2, d3⟩ := D; dsimp only at d0 d1 d2 d3; have F := GB.out _ hSw; have fl := F.lt; obtain ⟨f0, f1, f2, f3⟩ := F; dsimp only at f0 f1 f2 f3; try simp only [reO11x7]; first | (go_simp; done) | (go_simp; with_reducible rfl))
        try simp only [reO11x7, Act.put, List.setIfInBounds_toArray, List.set_cons_zero, List.set_cons_succ]
        refine wpAnyH_take (i := 8) (oi := reO11x8) (v := ?_) rfl (by kernel_rfl) (by kernel_rfl) (by kernel_rfl) (fun _ _ _ h => h) (Or.inl ⟨by rfl, ?_⟩) (by assumption) ?_
        rotate_left
        · (intro W hSw; (try dsimp only at hSw); have C := BXN.out.later hSw; have e0 := C.at 0; have e1 := C.at 1; have e2 := C.at 2; have e3 := C.at 3; have e4 := C.at 4; have e5 := C.at 5; have e6 := C.at 6; have e7 := C.at 7; clear C; have D := GA.out _ hSw; have dl := D.lt; obtain ⟨d0, d1, d2, d3⟩ := D; dsimp only at d0 d1 d2 d3; have F := GB.out _ hSw; have fl := F.lt; obtain ⟨f0, f1, f2, f3⟩ := F; dsimp only at f0 f1 f2 f3; try simp only [reO11x8]; first | (go_simp; done) | (go_simp; with_reducible rfl))
        try simp only [reO11x8, Act.put, List.setIfInBounds_toArray, List.set_cons_zero, List.set_cons_succ]
        refine wpAnyH_take (i := 9) (oi := reO11x9) (v := ?_) rfl (by kernel_rfl) (by kernel_rfl) (by kernel_rfl) (fun _ _ _ h => h) (Or.inl ⟨by rfl, ?_⟩) (by assumption) ?_
        rotate_left
        · (intro W hSw; (try dsimp only at hSw); have C := BXN.out.later hSw; have e0 := C.at 0; have e1 := C.at 1; have e2 := C.at 2; have e3 := C.at 3; have e4 := C.at 4; have e5 := C.at 5; have e6 := C.at 6; have e7 := C.at 7; clear C; have D := GA.out _ hSw; have dl := D.lt; obtain ⟨d0, d1, d2, d3⟩ := D; dsimp only at d0 d1 d2 d3; have F := GB.out _ hSw; have fl := F.lt; obtain ⟨f0, f1, f2, f3⟩ := F; dsimp only at f0 f1 f2 f3; try simp only [reO11x9]; first | (go_simp; done) | (go_simp; with_reducible rfl))
        try simp only [reO11x9, Act.put, List.setIfInBounds_toArray, List.set_cons_zero, List.set_cons_succ]
        refine wpAnyH_take (i := 10) (oi := reO11x10) (v := ?_) rfl (by kernel_rfl) (by kernel_rfl) (by kernel_rfl) (fun _ _ _ h => h) (Or.inl ⟨by rfl, ?_⟩) (by assumption) ?_
        rotate_left
        · (intro W hSw; (try dsimp only at hSw); have C := BXN.out.later hSw; have e0 := C.at 0; have e1 := C.at 1; have e2 := C.at 2; have e3 := C.at 3; have e4 := C.at 4; have e5 := C.at 5; have e6 := C.at 6; have e7 := C.at 7; clear C; have D := GA.out _ hSw; have dl := D.lt; obtain ⟨d0, d1, d2, d3⟩ := D; dsimp only at d0 d1 d2 d3; have F := GB.out _ hSw; have fl := F.lt; obtain ⟨f0, f1, f2, f3⟩ := F; dsimp only at f0 f1 f2 f3; try simp only [reO11x10]; first | (go_simp; done) | (go_simp; with_reducible rfl))
        try simp only [reO11x10, Act.put, List.setIfInBounds_toArray, List.set_cons_zero, List.set_cons_succ]
        refine wpAnyH_take (i := 11) (oi := reO11x11) (v := ?_) rfl (by kernel_rfl) (by kernel_rfl) (by kernel_rfl) (fun _ _ _ h => h) (Or.inl ⟨by rfl, ?_⟩) (by assumption) ?_
        rotate_left
        · (intro W hSw; (try dsimp only at hSw); have C := BXN.out.later hSw; have e0 := C.at 0; have e1 := C.at 1; have e2 := C.at 2; have e3 := C.at 3; have e4 := C.at 4; have e5 := C.at 5; have e6 := C.at 6; have e7 := C.at 7; clear C; have D := GA.out _ hSw; have dl := D.lt; obtain ⟨d0, d1, d2, d3⟩ := D; dsimp only at d0 d1 d2 d3; have F := GB.out _ hSw; have fl := F.lt; obtain ⟨f0, f1, f2, f3⟩ := F; dsimp only at f0 f1 f2 f3; try simp only [reO11x11]; first | (go_simp; done) | (go_simp; with_reducible rfl))
        try simp only [reO11x11, Act.put, List.setIfInBounds_toArray, List.set_cons_zero, List.set_cons_succ]
        refine wpAnyH_ready (rs := [12]) (by kernel_rfl) (by simp) ?_
        refine AllReadyH.cons (o := reO11x12) rfl (fun K hK => ?_) AllReadyH.nil
        try simp only [reO11x12]
        go_simp
        go_wp2_with fail
        have hH2 : Below wn.heap.size wn _ := hHeld
        refine (TT _).mono ?_
        rintro e w3 ⟨rfl, b3⟩
        have hb3 : Below wn.heap.size wn w3 := below_trans hH2 b3
        clear hH2
        have n7 := (BXN.out.later hb3).at 7
        have nl := (BXN.out.later hb3).lt
        have bx : Box w3 pv ⟨vk, vn, vm, vb⟩ := BXV.out.drew'.later b3
        have y0 := bx.at4.1; have y1 := bx.at4.2.1; have y2 := bx.at4.2.2.1; have y3 := bx.at4.2.2.2; have yl := bx.lt; have g0 := bx.free 0; have g1 := bx.free 1; have g2 := bx.free 2; have g3 := bx.free 3
        dsimp only at y0 y1 y2 y3
        simp only [Nat.zero_add] at y1 y2 y3
        clear bx
        refine hK.out _ _ ?_ (fun hHeld => ?_)
        · ((try dsimp only); exact below_trans hHeld b3)
        clear hK K
        try simp only [Act.put, List.setIfInBounds_toArray, List.set_cons_zero, List.set_cons_succ]
        refine wpAnyH_take (i := 13) (oi := reO11x13) (v := ?_) rfl (by kernel_rfl) (by kernel_rfl) (by kernel_rfl) (fun _ _ _ h => h) (Or.inl ⟨by rfl, ?_⟩) (by assumption) ?_
        rotate_left
        · (intro W hSw; (try dsimp only at hSw); have C := BXN.out.later hSw; have e0 := C.at 0; have e1 := C.at 1; have e2 := C.at 2; have e3 := C.at 3; have e4 := C.at 4; have e5 := C.at 5; have e6 := C.at 6; have e7 := C.at 7; clear C; have D := GA.out _ hSw; have dl := D.lt; obtain ⟨d0, d1, d2, d3⟩ := D; dsimp only at d0 d1 d2 d3; have F := GB.out _ hSw; have fl := F.lt; obtain ⟨f0, f1, f2, f3⟩ := F; dsimp only at f0 f1 f2 f3; try simp only [reO11x13]; first | (go_simp; done) | (go_simp; with_reducible rfl))
        try simp only [reO11x13, Act.put, List.setIfInBounds_toArray, List.set_cons_zero, List.set_cons_succ]
        refine wpAnyH_take (i := 14) (oi := reO11x14) (v := ?_) rfl (by kernel_rfl) (by kernel_rfl) (by kernel_rfl) (fun _ _ _ h => h) (Or.inl ⟨by rfl, ?_⟩) (by assumption) ?_
        rotate_left
        · (intro W hSw; (try dsimp only at hSw); have C := BXN.out.later hSw; have e0 := C.at 0; have e1 := C.at 1; have e2 := C.at 2; have e3 := C.at 3; have e4 := C.at 4; have e5 := C.at 5; have e6 := C.at 6; have e7 := C.at 7; clear C; have D := GA.out _ hSw; have dl := D.lt; obtain ⟨d0, d1, d2, d3⟩ := D; dsimp only at d0 d1 d2 d3; have F := GB.out _ hSw; have fl := F.lt; obtain ⟨f0, f1, f2, f3⟩ := F; dsimp only at f0 f1 f2 f3; try simp only [reO11x14]; first | (go_simp; done) | (go_simp; with_reducible rfl))
        try simp only [reO11x14, Act.put, List.setIfInBounds_toArray, List.set_cons_zero, List.set_cons_succ]
        refine wpAnyH_take (i := 15) (oi := reO11x15) (v := ?_) rfl (by kernel_rfl) (by kernel_rfl) (by kernel_rfl) (fun _ _ _ h => h) (Or.inl ⟨by rfl, ?_⟩) (by assumption) ?_
        rotate_left
        · (intro W hSw; (try dsimp only at hSw); have C := BXN.out.later hSw; have e0 := C.at 0; have e1 := C.at 1; have e2 := C.at 2; have e3 := C.at 3; have e4 := C.at 4; have e5 := C.at 5; have e6 := C.at 6; have e7 := C.at 7; clear C; have D := GA.out _ hSw; have dl := D.lt; obtain ⟨d0, d1, d2, d3⟩ := D; dsimp only at d0 d1 d2 d3; have F := GB.out _ hSw; have fl := F.lt; obtain ⟨f0, f1, f2, f3⟩ := F; dsimp only at f0 f1 f2 f3; try simp only [reO11x15]; first | (go_simp; done) | (go_simp; with_reducible rfl))
        try simp only [reO11x15, Act.put, List.setIfInBounds_toArray, List.set_cons_zero, List.set_cons_succ]
        refine wpAnyH_ready (rs := [16]) (by kernel_rfl) (by simp) ?_
        refine AllReadyH.cons (o := reO11x16) rfl (fun K hK => ?_) AllReadyH.nil
        try simp only [reO11x16]
        go_simp
        refine hK.out _ _ ?_ (fun hHeld => ?_)
        · ((try dsimp only); exact res_kept (q := pv) hHeld HPV.out _ _ _ _)
        clear hK K
        try simp only [Act.put, List.setIfInBounds_toArray, List.set_cons_zero, List.set_cons_succ]
        refine wpAnyH_take (i := 17) (oi := reO11x17) (v := ?_) rfl (by kernel_rfl) (by kernel_rfl) (by kernel_rfl) (fun _ _ _ h => h) (Or.inl ⟨by rfl, ?_⟩) (by assumption) ?_
        rotate_left
        · (intro W hSw; (try dsimp only at hSw); have C := BXN.out.later hSw; have e0 := C.at 0; have e1 := C.at 1; have e2 := C.at 2; have e3 := C.at 3; have e4 := C.at 4; have e5 := C.at 5; have e6 := C.at 6; have e7 := C.at 7; clear C; have D := GA.out _ hSw; have dl := D.lt; obtain ⟨d0, d1, d2, d3⟩ := D; dsimp only at d0 d1 d2 d3; have F := GB.out _ hSw; have fl := F.lt; obtain ⟨f0, f1, f2, f3⟩ := F; dsimp only at f0 f1 f2 f3; try simp only [reO11x17]; first | (go_simp; done) | (go_simp; with_reducible rfl))
        try simp only [reO11x17, Act.put, List.setIfInBounds_toArray, List.set_cons_zero, List.set_cons_succ]
        refine wpAnyH_done (by kernel_rfl) ?_ _
        go_wp2_with fail
        go_meet
        exact ⟨by first | rfl | (simp [go_sem]; done), rfl, fun _ => ⟨by simp (maxDischargeDepth := 12) [go_sem, y0], by simp (maxDischargeDepth := 12) [go_sem, y1], by simp (maxDischargeDepth := 12) [go_sem, y2], by simp (maxDischargeDepth := 12) [go_sem, y3]⟩, below_trans Bn0.out hHeld⟩
      rename World => wx
      obtain ⟨rfl, rfl, h4x, b2x⟩ := hcut
      have B1x : Hid (Below w1.heap.size w1 wx) := below_trans hb b2x
      by_cases hre : re = 0
      case neg =>
        have hre' : ¬ re = 0 := hre
        have HF : Hid (R = (nul, re)) := by show R = _; rw [← HST.out, if_neg hre]
        have br := RBX.out.later B1x.out
        have lt1 := br.lt
        obtain ⟨r0, r1, r2, r3⟩ := br.at4
        dsimp only [nul] at r0 r1 r2 r3
        simp only [Nat.zero_add] at r1 r2 r3
        have f0 := br.free 0
        have f1 := br.free 1
        have f2 := br.free 2
        have f3 := br.free 3
        clear HST hre h4x
        go_wp2
        refine bodyPost_ret_by (v := .tuple #[va 0 0 0 ⟨#[]⟩, .int .i64 re]) ?_ rfl ⟨by rw [HF.out]; rfl, res_kept (below_trans B0 B1x.out) (by omega) _ _ _ _⟩
        simp [results, Tryz.results28, go_sem, r0, r1, r2, r3]
      subst hre
      rw [if_pos rfl] at HST
      have H4X : Hid (At4 wx pv 0 ⟨rk, rn, rm, rb⟩) := h4x rfl
      have HLK : Hid ((st.take f).length = f) := by show _ = _; rw [List.length_take]; omega
      have HWX : Hid (w1.heap.size ≤ wx.heap.size) := B1x.out.size
      have SRC : Hid (∀ W, Below wx.heap.size wx W → Src Tryz.prog 4 48 (.slice so f sc) f (vcells (st.take f)) W) := fun W h => src_of_vk ((Vk.later HO.out b2x).later h) hfl
      clear h4x
      go_upto_region 27 with fail
      refine wp_region_held_drew (S := (fun W => Below wx.heap.size wx W)) (by kernel_rfl) ?_ (fun hHeld => ?_)
      · ((try dsimp only); exact (Below.refl _ _).drew)
      refine wpAnyH_take (i := 1) (oi := reO27x1) (v := ?_) rfl (by kernel_rfl) (by kernel_rfl) (by kernel_rfl) (fun _ _ _ h => h) (Or.inl ⟨by rfl, ?_⟩) (by assumption) ?_
      rotate_left
      · (intro W hSw; (try dsimp only at hSw); obtain ⟨u0, u1, u2, u3⟩ := H4X.out.later hSw; dsimp only at u0 u1 u2 u3; simp only [Nat.zero_add] at u1 u2 u3; have ul := (H4X.out.later hSw).lt; try simp only [reO27x1]; first | (go_simp; done) | (go_simp; with_reducible rfl))
      try simp only [reO27x1, Act.put, List.setIfInBounds_toArray, List.set_cons_zero, List.set_cons_succ]
      refine wpAnyH_take (i := 3) (oi := reO27x3) (v := ?_) rfl (by kernel_rfl) (by kernel_rfl) (by kernel_rfl) (fun _ _ _ h => h) (Or.inl ⟨by rfl, ?_⟩) (by assumption) ?_
      rotate_left
      · (intro W hSw; (try dsimp only at hSw); obtain ⟨u0, u1, u2, u3⟩ := H4X.out.later hSw; dsimp only at u0 u1 u2 u3; simp only [Nat.zero_add] at u1 u2 u3; have ul := (H4X.out.later hSw).lt; try simp only [reO27x3]; first | (go_simp; done) | (go_simp; with_reducible rfl))
      try simp only [reO27x3, Act.put, List.setIfInBounds_toArray, List.set_cons_zero, List.set_cons_succ]
      refine wpAnyH_ready (rs := [0, 4]) (by kernel_rfl) (by simp) ?_
      refine AllReadyH.cons (o := reO27x0) rfl (fun K hK => ?_) (AllReadyH.cons (o := reO27x4) rfl (fun K hK => ?_) AllReadyH.nil)
      ·
        try simp only [reO27x0]
        go_simp
        refine hK.out _ _ ?_ (fun hHeld => ?_)
        · ((try dsimp only); exact (Below.refl _ wx).drew.alloc (Nat.le_refl _) _)
        clear hK K
        try simp only [Act.put, List.setIfInBounds_toArray, List.set_cons_zero, List.set_cons_succ]
        have o3 : (wx.drew.alloc (.cells #[] 42)).ownsRow wx.heap.size 42 4 (.slice (some ⟨wx.heap.size, 0, none⟩) 0 0) 0 [] := World.ownsRow_made wx.drew #[] 0 (Nat.le_refl _) (by decide) (by simp)
        refine wpAnyH_ready (rs := [2, 4]) (by kernel_rfl) (by simp) ?_
        refine AllReadyH.cons (o := reO27x2) rfl (fun K hK => ?_) (AllReadyH.cons (o := reO27x4) rfl (fun K hK => ?_) AllReadyH.nil)
        ·
          have hbx : Below wx.heap.size wx _ := (Below.refl _ wx).drew.alloc (Nat.le_refl _) (.cells #[] 42)
          have sz := hbx.size
          refine step_append_from (by rfl) _ _ 48 48 (by rfl) wx.heap.size 42 i0 _ 4 40 Tryz.underlying48 hi hz0 hz1 hz2 rfl _ 0 [] (by rfl) o3 _ f (vcells (st.take f)) (by rfl) (SRC.out _ hbx) (by unfold maxLen; omega) (by omega) sz ?_
          intro v6 w6 o6 g6 a6
          rw [List.nil_append, Nat.zero_add] at o6
          have hb6 : Below wx.heap.size wx w6 := hbx.grown g6 sz (fun k hk => (World.ownsRow.lt o3 k hk).1)
          clear hbx
          refine hK.out _ _ ?_ (fun hHeld => ?_)
          · ((try dsimp only); exact hb6)
          clear hK K
          try simp only [reO27x2, Act.put, List.setIfInBounds_toArray, List.set_cons_zero, List.set_cons_succ]
          refine wpAnyH_ready (rs := [4]) (by kernel_rfl) (by simp) ?_
          refine AllReadyH.cons (o := reO27x4) rfl (fun K hK => ?_) AllReadyH.nil
          try simp only [reO27x4]
          go_simp
          refine hK.out _ _ ?_ (fun hHeld => ?_)
          · ((try dsimp only); exact hb6.alloc hb6.size _)
          clear hK K
          try simp only [Act.put, List.setIfInBounds_toArray, List.set_cons_zero, List.set_cons_succ]
          have n4c : At4 (w6.alloc (.cells (vcs ⟨rk, rn, rm, rb⟩) 42)) w6.heap.size 0 ⟨rk, rn, rm, rb⟩ := (Box.new w6 rk rn rm rb).at4
          have o6a := World.ownsRow.alloc o6 (.cells (vcs ⟨rk, rn, rm, rb⟩) 42)
          refine wpAnyH_ready (rs := [5]) (by kernel_rfl) (by simp) ?_
          refine AllReadyH.cons (o := reO27x5) rfl (fun K hK => ?_) AllReadyH.nil
          have hbx : Below wx.heap.size wx (w6.alloc (.cells (vcs ⟨rk, rn, rm, rb⟩) 42)) := hb6.alloc hb6.size (.cells (vcs ⟨rk, rn, rm, rb⟩) 42)
          have sz := hbx.size
          refine step_append_lies _ (by rfl) _ _ _ (by rfl) wx.heap.size 42 i0 _ 4 40 Tryz.underlying48 hi hz0 hz1 hz2 rfl (by omega) _ f (vcells (st.take f)) (by rfl) o6a ⟨w6.heap.size, 0, none⟩ 1 1 (vcs ⟨rk, rn, rm, rb⟩).toList (by rfl) (by rfl) (news_of_at4 n4c) (one_va ⟨rk, rn, rm, rb⟩) (by omega) (by unfold maxLen; omega) (by omega) sz (w6.alloc (.cells (vcs ⟨rk, rn, rm, rb⟩) 42)).heap.size rfl ?_
          intro gg gc w7 o7 g7 a7 l7
          have hb7 : Below wx.heap.size wx w7 := hbx.grown g7 sz (fun k hk => (World.ownsRow.lt o6a k hk).1)
          clear hbx
          refine hK.out _ _ ?_ (fun hHeld => ?_)
          · ((try dsimp only); exact hb7)
          clear hK K
          try simp only [reO27x5, Act.put, List.setIfInBounds_toArray, List.set_cons_zero, List.set_cons_succ]
          refine wpAnyH_take (i := 6) (oi := reO27x6) (v := ?_) rfl (by kernel_rfl) (by kernel_rfl) (by kernel_rfl) (fun _ _ _ h => h) (Or.inl ⟨by rfl, ?_⟩) (by assumption) ?_
          rotate_left
          · (intro W hSw; (try dsimp only at hSw); obtain ⟨u0, u1, u2, u3⟩ := H4X.out.later hSw; dsimp only at u0 u1 u2 u3; simp only [Nat.zero_add] at u1 u2 u3; have ul := (H4X.out.later hSw).lt; try simp only [reO27x6]; first | (go_simp; done) | (go_simp; with_reducible rfl))
          try simp only [reO27x6, Act.put, List.setIfInBounds_toArray, List.set_cons_zero, List.set_cons_succ]
          refine wpAnyH_done (by kernel_rfl) ?_ _
          go_wp2
          have ho5 := vk_base (Vk.push HLK.out o7) HWX.out
          exact ⟨⟨k + 1, st.take f ++ [⟨rk, rn, rm, rb⟩], by rw [cst1], by omega, by rw [List.length_append, HLK.out]; simp; omega, ho5, below_trans B1x.out hb7, HST, by obtain ⟨d1, d2, d3⟩ := HDD.out; exact ⟨d1, by rw [List.length_append, HLK.out, d2]; simp, d3⟩, gv_take HG.out HGR.out⟩, by simp [intOf]; omega⟩
        ·
          try simp only [reO27x4]
          go_simp
          refine hK.out _ _ ?_ (fun hHeld => ?_)
          · ((try dsimp only); exact ((Below.refl _ wx).drew.alloc (Nat.le_refl _) _).alloc (by simp) _)
          clear hK K
          try simp only [Act.put, List.setIfInBounds_toArray, List.set_cons_zero, List.set_cons_succ]
          have n4b : At4 ((wx.drew.alloc (.cells #[] 42)).alloc (.cells (vcs ⟨rk, rn, rm, rb⟩) 42)) (wx.heap.size + 1) 0 ⟨rk, rn, rm, rb⟩ := by have := (Box.new (wx.drew.alloc (.cells #[] 42)) rk rn rm rb).at4; simpa using this
          have o3a := World.ownsRow.alloc o3 (.cells (vcs ⟨rk, rn, rm, rb⟩) 42)
          refine wpAnyH_ready (rs := [2]) (by kernel_rfl) (by simp) ?_
          refine AllReadyH.cons (o := reO27x2) rfl (fun K hK => ?_) AllReadyH.nil
          have hbx : Below wx.heap.size wx _ := ((Below.refl _ wx).drew.alloc (Nat.le_refl _) (.cells #[] 42)).alloc (by simp) (.cells (vcs ⟨rk, rn, rm, rb⟩) 42)
          have sz := hbx.size
          refine step_append_from (by rfl) _ _ 48 48 (by rfl) wx.heap.size 42 i0 _ 4 40 Tryz.underlying48 hi hz0 hz1 hz2 rfl _ 0 [] (by rfl) o3a _ f (vcells (st.take f)) (by rfl) (SRC.out _ hbx) (by unfold maxLen; omega) (by omega) sz ?_
          intro v6 w6 o6 g6 a6
          rw [List.nil_append, Nat.zero_add] at o6
          have hb6 : Below wx.heap.size wx w6 := hbx.grown g6 sz (fun k hk => (World.ownsRow.lt o3a k hk).1)
          have n4c : At4 w6 (wx.heap.size + 1) 0 ⟨rk, rn, rm, rb⟩ := n4b.grown g6 (fun e => by have h2 : wx.heap.size + 1 = wx.heap.size := Option.some.inj e; omega)
          clear hbx
          refine hK.out _ _ ?_ (fun hHeld => ?_)
          · ((try dsimp only); exact hb6)
          clear hK K
          try simp only [reO27x2, Act.put, List.setIfInBounds_toArray, List.set_cons_zero, List.set_cons_succ]
          refine wpAnyH_ready (rs := [5]) (by kernel_rfl) (by simp) ?_
          refine AllReadyH.cons (o := reO27x5) rfl (fun K hK => ?_) AllReadyH.nil
          have hbx : Below wx.heap.size wx w6 := hb6
          have sz := hbx.size
          refine step_append_lies _ (by rfl) _ _ _ (by rfl) wx.heap.size 42 i0 _ 4 40 Tryz.underlying48 hi hz0 hz1 hz2 rfl (by omega) _ f (vcells (st.take f)) (by rfl) o6 ⟨wx.heap.size + 1, 0, none⟩ 1 1 (vcs ⟨rk, rn, rm, rb⟩).toList (by rfl) (by rfl) (news_of_at4 n4c) (one_va ⟨rk, rn, rm, rb⟩) (by omega) (by unfold maxLen; omega) (by omega) sz w6.heap.size rfl ?_
          intro gg gc w7 o7 g7 a7 l7
          have hb7 : Below wx.heap.size wx w7 := hbx.grown g7 sz (fun k hk => (World.ownsRow.lt o6 k hk).1)
          clear hbx
          refine hK.out _ _ ?_ (fun hHeld => ?_)
          · ((try dsimp only); exact hb7)
          clear hK K
          try simp only [reO27x5, Act.put, List.setIfInBounds_toArray, List.set_cons_zero, List.set_cons_succ]
          refine wpAnyH_take (i := 6) (oi := reO27x6) (v := ?_) rfl (by kernel_rfl) (by kernel_rfl) (by kernel_rfl) (fun _ _ _ h => h) (Or.inl ⟨by rfl, ?_⟩) (by assumption) ?_
          rotate_left
          · (intro W hSw; (try dsimp only at hSw); obtain ⟨u0, u1, u2, u3⟩ := H4X.out.later hSw; dsimp only at u0 u1 u2 u3; simp only [Nat.zero_add] at u1 u2 u3; have ul := (H4X.out.later hSw).lt; try simp only [reO27x6]; first | (go_simp; done) | (go_simp; with_reducible rfl))
          try simp only [reO27x6, Act.put, List.setIfInBounds_toArray, List.set_cons_zero, List.set_cons_succ]
          refine wpAnyH_done (by kernel_rfl) ?_ _
          go_wp2
          have ho5 := vk_base (Vk.push HLK.out o7) HWX.out
          exact ⟨⟨k + 1, st.take f ++ [⟨rk, rn, rm, rb⟩], by rw [cst1], by omega, by rw [List.length_append, HLK.out]; simp; omega, ho5, below_trans B1x.out hb7, HST, by obtain ⟨d1, d2, d3⟩ := HDD.out; exact ⟨d1, by rw [List.length_append, HLK.out, d2]; simp, d3⟩, gv_take HG.out HGR.out⟩, by simp [intOf]; omega⟩
      ·
        try simp only [reO27x4]
        go_simp
        refine hK.out _ _ ?_ (fun hHeld => ?_)
        · ((try dsimp only); exact (Below.refl _ wx).drew.alloc (Nat.le_refl _) _)
        clear hK K
        try simp only [Act.put, List.setIfInBounds_toArray, List.set_cons_zero, List.set_cons_succ]
        have n4 : At4 (wx.drew.alloc (.cells (vcs ⟨rk, rn, rm, rb⟩) 42)) wx.heap.size 0 ⟨rk, rn, rm, rb⟩ := (Box.new wx.drew rk rn rm rb).at4
        refine wpAnyH_ready (rs := [0]) (by kernel_rfl) (by simp) ?_
        refine AllReadyH.cons (o := reO27x0) rfl (fun K hK => ?_) AllReadyH.nil
        try simp only [reO27x0]
        go_simp
        refine hK.out _ _ ?_ (fun hHeld => ?_)
        · ((try dsimp only); exact ((Below.refl _ wx).drew.alloc (Nat.le_refl _) _).alloc (by simp) _)
        clear hK K
        try simp only [Act.put, List.setIfInBounds_toArray, List.set_cons_zero, List.set_cons_succ]
        have o3 : ((wx.drew.alloc (.cells (vcs ⟨rk, rn, rm, rb⟩) 42)).alloc (.cells #[] 42)).ownsRow wx.heap.size 42 4 (.slice (some ⟨wx.heap.size + 1, 0, none⟩) 0 0) 0 [] := by have := World.ownsRow_made (base := wx.heap.size) (e := 42) (size := 4) (wx.drew.alloc (.cells (vcs ⟨rk, rn, rm, rb⟩) 42)) #[] 0 (by simp) (by decide) (by simp); simpa using this
        have n4b : At4 ((wx.drew.alloc (.cells (vcs ⟨rk, rn, rm, rb⟩) 42)).alloc (.cells #[] 42)) wx.heap.size 0 ⟨rk, rn, rm, rb⟩ := n4.later ((Below.refl _ _).alloc (Nat.le_refl _) _)
        refine wpAnyH_ready (rs := [2]) (by kernel_rfl) (by simp) ?_
        refine AllReadyH.cons (o := reO27x2) rfl (fun K hK => ?_) AllReadyH.nil
        have hbx : Below wx.heap.size wx _ := ((Below.refl _ wx).drew.alloc (Nat.le_refl _) (.cells (vcs ⟨rk, rn, rm, rb⟩) 42)).alloc (by simp) (.cells #[] 42)
        have sz := hbx.size
        refine step_append_from (by rfl) _ _ 48 48 (by rfl) wx.heap.size 42 i0 _ 4 40 Tryz.underlying48 hi hz0 hz1 hz2 rfl _ 0 [] (by rfl) o3 _ f (vcells (st.take f)) (by rfl) (SRC.out _ hbx) (by unfold maxLen; omega) (by omega) sz ?_
        intro v6 w6 o6 g6 a6
        rw [List.nil_append, Nat.zero_add] at o6
        have hb6 : Below wx.heap.size wx w6 := hbx.grown g6 sz (fun k hk => (World.ownsRow.lt o3 k hk).1)
        have n4c : At4 w6 wx.heap.size 0 ⟨rk, rn, rm, rb⟩ := n4b.grown g6 (fun e => by have h2 : wx.heap.size = wx.heap.size + 1 := Option.some.inj e; omega)
        clear hbx
        refine hK.out _ _ ?_ (fun hHeld => ?_)
        · ((try dsimp only); exact hb6)
        clear hK K
        try simp only [reO27x2, Act.put, List.setIfInBounds_toArray, List.set_cons_zero, List.set_cons_succ]
        refine wpAnyH_ready (rs := [5]) (by kernel_rfl) (by simp) ?_
        refine AllReadyH.cons (o := reO27x5) rfl (fun K hK => ?_) AllReadyH.nil
        have hbx : Below wx.heap.size wx w6 := hb6
        have sz := hbx.size
        refine step_append_lies _ (by rfl) _ _ _ (by rfl) wx.heap.size 42 i0 _ 4 40 Tryz.underlying48 hi hz0 hz1 hz2 rfl (by omega) _ f (vcells (st.take f)) (by rfl) o6 ⟨wx.heap.size, 0, none⟩ 1 1 (vcs ⟨rk, rn, rm, rb⟩).toList (by rfl) (by rfl) (news_of_at4 n4c) (one_va ⟨rk, rn, rm, rb⟩) (by omega) (by unfold maxLen; omega) (by omega) sz w6.heap.size rfl ?_
        intro gg gc w7 o7 g7 a7 l7
        have hb7 : Below wx.heap.size wx w7 := hbx.grown g7 sz (fun k hk => (World.ownsRow.lt o6 k hk).1)
        clear hbx
        refine hK.out _ _ ?_ (fun hHeld => ?_)
        · ((try dsimp only); exact hb7)
        clear hK K
        try simp only [reO27x5, Act.put, List.setIfInBounds_toArray, List.set_cons_zero, List.set_cons_succ]
        refine wpAnyH_take (i := 6) (oi := reO27x6) (v := ?_) rfl (by kernel_rfl) (by kernel_rfl) (by kernel_rfl) (fun _ _ _ h => h) (Or.inl ⟨by rfl, ?_⟩) (by assumption) ?_
        rotate_left
        · (intro W hSw; (try dsimp only at hSw); obtain ⟨u0, u1, u2, u3⟩ := H4X.out.later hSw; dsimp only at u0 u1 u2 u3; simp only [Nat.zero_add] at u1 u2 u3; have ul := (H4X.out.later hSw).lt; try simp only [reO27x6]; first | (go_simp; done) | (go_simp; with_reducible rfl))
        try simp only [reO27x6, Act.put, List.setIfInBounds_toArray, List.set_cons_zero, List.set_cons_succ]
        refine wpAnyH_done (by kernel_rfl) ?_ _
        go_wp2
        have ho5 := vk_base (Vk.push HLK.out o7) HWX.out
        exact ⟨⟨k + 1, st.take f ++ [⟨rk, rn, rm, rb⟩], by rw [cst1], by omega, by rw [List.length_append, HLK.out]; simp; omega, ho5, below_trans B1x.out hb7, HST, by obtain ⟨d1, d2, d3⟩ := HDD.out; exact ⟨d1, by rw [List.length_append, HLK.out, d2]; simp, d3⟩, gv_take HG.out HGR.out⟩, by simp [intOf]; omega⟩
    · have hlt' : ¬ (k : Int) < (n : Int) := by omega
      have HF : Hid (R = (st.headD nul, 0) ∧ st.length = 1) := by
        obtain ⟨ds, h1, h2⟩ := hD.out
        have h3 := hH.out
        have e : l.drop k = [] := List.drop_eq_nil_of_le (by rw [HN.out]; omega)
        rw [e] at h2 h3
        have h4 : ds = [d] := by
          unfold runD at h2
          exact Option.some.inj h2
        exact ⟨h3.symm, by rw [← h1, h4]; rfl⟩
      obtain ⟨v, hv⟩ := List.length_eq_one_iff.1 HF.out.2
      subst hv
      obtain ⟨g, rfl, hgb, hgl, hgc⟩ : ∃ g, so = some ⟨g, 0, none⟩ ∧ w1.heap.size ≤ g ∧ g < wr.heap.size ∧ ∀ i (h : i < [v].length), At4 wr g (i * 4) [v][i] := by
        cases so with
        | none => obtain ⟨h1, h2⟩ := hsn rfl; simp at h1
        | some a => obtain ⟨g, rfl, h2⟩ := hcell a rfl; exact ⟨g, rfl, h2⟩
      have h4 : At4 wr g 0 v := by have := hgc 0 (by simp); simpa using this
      have HF2 : Hid (R = (v, 0)) := HF.out.1
      obtain ⟨vk, vn, vm, vb⟩ := v
      obtain ⟨y0, y1, y2, y3⟩ := h4
      dsimp only at y0 y1 y2 y3
      simp only [Nat.zero_add] at y1 y2 y3
      clear HF hgc hcell hcut ho hsn hH hD HG HR HD gx
      have B5 := below_trans B0 hb
      have br := RBX.out.later hb
      have lt1 := br.lt
      obtain ⟨r0, r1, r2, r3⟩ := br.at4
      dsimp only [nul] at r0 r1 r2 r3
      simp only [Nat.zero_add] at r1 r2 r3
      have f0 := br.free 0
      have f1 := br.free 1
      have f2 := br.free 2
      have f3 := br.free 3
      go_wp2
      refine bodyPost_ret_by (v := .tuple #[va vk vn vm ⟨vb.toArray⟩, .int .i64 0]) ?_ rfl ⟨by rw [HF2.out], res_kept B5 (by omega) _ _ _ _⟩
      simp [results, Tryz.results28, go_sem, r0, r1, r2, r3]

end Go.Proofs.YtclhmmgdhagloaaGreatDoor
