/-
  The contract of longstoplaw05.knows: whatever lies in memory, it answers true, and nothing that was there has changed.
  What every claim of this seat shares: the listed tables as the walks ask for them.
  Lists of the document's tokens that come in, and what the bound on the input's bulk gives.
-/
import Derived.Test.YtoadhfcjegfanaaGreatDoorLJoin
import Derived.Test.YtoadhfcjegfanaaGreatDoorRows
import Derived.Test.YtoadhfcjegfanaaGreatDoorCards
import Derived.Test.YtoadhfcjegfanaaGreatDoorTie
import Derived.ProofKit
import Derived.LaidMore
import Derived.OpenShut
import Derived.ShutString
import Derived.Stop.Joined
import Derived.Lib.LaidTab
import Derived.Lib.LaidU8T
import Derived.Lib.LaidIn
import Derived.Lib.SmallJoins
import Derived.PinnedBridge
import Derived.Lay
import Derived.LaidOnce
import Derived.SevenTiedAt
import Derived.ChangeSame
import Derived.SizedLaws
import Derived.Deep.Slices
namespace Go.Proofs.YtoadhfcjegfanaaGreatDoor
open Go.RowKit Go.Shelf
attribute [local go_sem] cell?_more frozen?_more setCell_more more_lt more_more more_drew more_drewN setCell_drewN alloc_drewN

/-- The text that is known, and its tokens. -/
abbrev K0 : List UInt8 := [97, 49, 60, 61, 50, 46, 53]
abbrev K1 : Tok := ⟨1, [97, 49], vz, 0⟩
abbrev K2 : Tok := ⟨2, [60, 61], vz, 2⟩
abbrev K3 : Tok := ⟨3, [50, 46, 53], ⟨2, 25, 1, []⟩, 4⟩

theorem dpv_25 : dpv [50, 46, 53] = some ⟨2, 25, 1, []⟩ := by
  have hPR : PR [50, 46, 53] = some (false, 25, 1) := by decide +kernel
  have hb := (PR_back [50, 46, 53] false 25 1 hPR (by decide +kernel)).2
  have htl : tlv [50, 46, 53] = (⟨2, 25, 1, []⟩, true) := by
    unfold tlv tnv
    rw [if_neg (by decide), show trimP [50, 46, 53] = [50, 46, 53] by decide, hPR]
    rfl
  have hvr : vr ⟨2, 25, 1, []⟩ = true := by decide +kernel
  unfold dpv
  rw [htl]
  have hp : pv ⟨2, 25, 1, []⟩ = [50, 46, 53] := by
    unfold pv
    rw [if_pos hvr]
    show dpt 25 1 = _
    unfold dpt
    rw [if_neg (by decide), List.append_nil]
    exact hb
  rw [if_pos ⟨rfl, hp⟩]

theorem lex_K0 : lexL vz dpv K0 0 = some [K1, K2, K3] := by
  rw [lex_tok _ _ _ (by decide)]
  have t1 : tok vz dpv K0 0 = some K1 := by
    have h : lxt K0 = (1, 2) := by decide +kernel
    unfold tok; rw [h]; rfl
  rw [t1]
  show (lexL vz dpv [60, 61, 50, 46, 53] 2).map _ = _
  rw [lex_tok _ _ _ (by decide)]
  have t2 : tok vz dpv [60, 61, 50, 46, 53] 2 = some K2 := by
    have h : lxt [60, 61, 50, 46, 53] = (2, 2) := by decide +kernel
    unfold tok; rw [h]; rfl
  rw [t2]
  show Option.map _ ((lexL vz dpv [50, 46, 53] 4).map _) = _
  rw [lex_tok _ _ _ (by decide)]
  have t3 : tok vz dpv [50, 46, 53] 4 = some K3 := by
    have h : lxt [50, 46, 53] = (3, 3) := by decide +kernel
    unfold tok
    rw [h, if_neg (by decide), if_neg (by decide), if_pos rfl, show ([50, 46, 53] : List UInt8).take (3, 3).2 = [50, 46, 53] from rfl, dpv_25]
  rw [t3]
  rfl

theorem right_K1 : rtok (tin K1) = true := by
  have h : lexL vz dpv [97, 49] 0 = some [K1] := by
    rw [lex_tok _ _ _ (by decide)]
    have t1 : tok vz dpv [97, 49] 0 = some K1 := by
      have h : lxt [97, 49] = (1, 2) := by decide +kernel
      unfold tok; rw [h]; rfl
    rw [t1]; rfl
  unfold rtok
  rw [if_pos (by decide)]
  show rt1 (lexL vz dpv [97, 49] 0) _ = true
  rw [h]; rfl
theorem right_K2 : rtok (tin K2) = true := by
  have h : lexL vz dpv [60, 61] 0 = some [⟨2, [60, 61], vz, 0⟩] := by
    rw [lex_tok _ _ _ (by decide)]
    have t1 : tok vz dpv [60, 61] 0 = some ⟨2, [60, 61], vz, 0⟩ := by
      have h : lxt [60, 61] = (2, 2) := by decide +kernel
      unfold tok; rw [h]; rfl
    rw [t1]; rfl
  unfold rtok
  rw [if_pos (by decide)]
  show rt1 (lexL vz dpv [60, 61] 0) _ = true
  rw [h]; rfl
theorem right_K3 : rtok (tin K3) = true := by
  have h : lexL vz dpv [50, 46, 53] 0 = some [⟨3, [50, 46, 53], ⟨2, 25, 1, []⟩, 0⟩] := by
    rw [lex_tok _ _ _ (by decide)]
    have t1 : tok vz dpv [50, 46, 53] 0 = some ⟨3, [50, 46, 53], ⟨2, 25, 1, []⟩, 0⟩ := by
      have h : lxt [50, 46, 53] = (3, 3) := by decide +kernel
      unfold tok
      rw [h, if_neg (by decide), if_neg (by decide), if_pos rfl, show ([50, 46, 53] : List UInt8).take (3, 3).2 = [50, 46, 53] from rfl, dpv_25]
    rw [t1]; rfl
  unfold rtok
  rw [if_pos (by decide)]
  show rt1 (lexL vz dpv [50, 46, 53] 0) _ = true
  rw [h]; rfl
theorem join_K : joinT [tin K1, tin K2, tin K3] = [97, 49, 32, 60, 61, 32, 50, 46, 53] := by
  unfold joinT
  rw [if_pos (by simp only [List.all_cons, List.all_nil, right_K1, right_K2, right_K3]; rfl)]
  rfl

theorem num5_any (n : Int) (w : World) : Calls Tryz.prog 19 #[.int .i64 n] w fun e w' => e = .returned (.int .i64 n) ∧ w = w' := by
  go_enter Tryz.func19, Tryz.ntmps19
  go_wp2
  go_ret
  exact ⟨rfl, rfl⟩

set_option maxHeartbeats 4000000 in
theorem knows5_any (w : World) (hT : Tabs w) (hP : Ptab w) : Calls Tryz.prog 17 #[] w fun e w' => e = .returned (.bool true) ∧ Below w.heap.size w w' := by
  have S := split_any K0 w (by decide) hT hP
  rw [lex_K0] at S
  have W := fun W => word_any [97, 95, 49] W (by decide)
  rw [show wordL [97, 95, 49] = true by decide +kernel] at W
  have N := fun W => num5_any 0 W
  go_enter Tryz.func17, Tryz.ntmps17
  go_wp2_with fail
  refine S.mono ?_
  rintro e w1 ⟨⟨sv, rfl, ho⟩, b1⟩
  obtain ⟨ao, cap, rfl, hw⟩ := ho.shape
  have J : ∀ W, Below w1.heap.size w1 W → Calls Tryz.prog 12 #[.slice ao 3 cap] W fun e w' => e = .returned (.string ⟨#[97, 49, 32, 60, 61, 32, 50, 46, 53]⟩) ∧ Below W.heap.size W w' := fun W h => by
    have := join_any ao cap [tin K1, tin K2, tin K3] W (hT.later (b1.trans (h.mono b1.size))) (hP.later (b1.trans (h.mono b1.size))) (hw.later h) (by decide) (by decide)
    rw [join_K] at this
    exact this
  obtain ⟨b, off, rfl, hc⟩ := hw (by simp)
  have h1 := hc 1 (by simp)
  have h2 := hc 2 (by simp)
  have hlt := h1.lt
  have c1 : w1.cell? ⟨b, off + 7 + 1, none⟩ = some (.string ⟨#[60, 61]⟩) := h1.2.1
  have c2 : w1.cell? ⟨b, off + 14 + 2 + 1, none⟩ = some (.int .i64 25) := h2.2.2.2.1
  have c3 : w1.cell? ⟨b, off + 14 + 6, none⟩ = some (.int .i64 4) := h2.2.2.2.2.2.2
  have c2' : w1.cell? ⟨b, off + 14 + 3, none⟩ = some (.int .i64 25) := h2.2.2.2.1
  clear S hT hP ho hw hc h1 h2
  go_wp2_with (first
    | (go_at_call 19; refine (N _).mono ?_; rintro e w' ⟨rfl, rfl⟩)
    | (go_at_call 12; refine (J _ (Below.refl _ _)).mono ?_; rintro e w2 ⟨rfl, b2⟩)
    | (go_at_call 14; refine (W _).mono ?_; rintro e w' ⟨rfl, rfl⟩))
  go_ret
  exact ⟨rfl, below_trans b1 b2⟩
end Go.Proofs.YtoadhfcjegfanaaGreatDoor

namespace Go.Proofs.YtoadhfcjegfanaaGreatDoor
open Go.ChangeShapes Go.WideShapes Go.ChangeAt Go.WideMaps Go.WideElems Go.RowKit Go.Shelf Go.Lib

theorem own : ownKnob Tryz.prog.godebug = none := by kernel_rfl
theorem laidOut : laidOutB Tryz.prog = true := by kernel_rfl

theorem tabs_of {W : World} (h1 : VarReads Tryz.prog W "unicode/utf8.first" Rows.laid_unicode_utf8_first) (h2 : VarReads Tryz.prog W "unicode/utf8.acceptRanges" Rows.laid_unicode_utf8_acceptRanges) : Tabs W :=
  utf8Tabs_of_readsT (U8Types.of196 Tryz.laysValid) ⟨by kernel_rfl, by kernel_rfl, by kernel_rfl, by kernel_rfl, by kernel_rfl, by kernel_rfl, by kernel_rfl⟩
    (Pinned.utf8First_eq ▸ h1) ((show Rows.laid_unicode_utf8_acceptRanges = Lib.acceptData by kernel_rfl) ▸ h2)

theorem ptab_of {W : World} (h : VarReads Tryz.prog W "internal/strconv.uint64pow10" Rows.laid_internal_strconv_uint64pow10) : Ptab W := by
  obtain ⟨g', t', cs, fuel, p, hg', ht', hvar, hd⟩ := h
  have hg : Tryz.prog.globalNamed "internal/strconv.uint64pow10" = some 4 := by kernel_rfl
  have hty : (Tryz.prog.globals[4]?).map (·.type) = some 208 := by kernel_rfl
  obtain rfl := Option.some.inj (hg.symm.trans hg')
  obtain rfl := Option.some.inj (hty.symm.trans ht')
  have hd' : DataW.trod (fun _ => ()) Tryz.prog W 0 (fun _ => true) false fuel 208 cs.toList = some (Lib.tabData .u64 Lib.pow10Tab, p) := by
    rw [hd, show Rows.laid_internal_strconv_uint64pow10 = Lib.tabData (H := Unit) .u64 Lib.pow10Tab by kernel_rfl]
  unfold Ptab Lib.TabIs
  rw [hvar, ← cells_of_tab Tryz.underlying208 Tryz.underlying127 (by kernel_rfl) (by kernel_rfl) hd']
theorem in_i64 {a : Int} (h : (Lit.int .i64 a).wf = true) : -9223372036854775808 ≤ a ∧ a ≤ 9223372036854775807 := bounds_i64 h
end Go.Proofs.YtoadhfcjegfanaaGreatDoor

namespace Go.Proofs.YtoadhfcjegfanaaGreatDoor
open Go.ChangeShapes Go.WideShapes Go.ChangeAt Go.WideMaps Go.WideElems Go.RowKit Go.Shelf Go.Lib

theorem bulk_one {H : Type} (d : DataW H) : 1 ≤ Rows.uptoBulk d := by
  cases d with
  | lit l => cases l <;> simp [Rows.uptoBulk]
  | nil => simp [Rows.uptoBulk]
  | ptr d => simp [Rows.uptoBulk]
  | slice elems spare => simp [Rows.uptoBulk]
  | agg parts => simp [Rows.uptoBulk]
  | iface t d => simp [Rows.uptoBulk]
  | map entries => simp [Rows.uptoBulk]
  | held h => simp [Rows.uptoBulk]
theorem bulk_all {H : Type} {l : List (DataW H)} (hk : Rows.uptoSmall H l = true) : Rows.uptoBulkAll l ≤ 1048576 := of_decide_eq_true hk
def vin (v : Va) : Prop := (-9223372036854775808 ≤ v.n ∧ v.n ≤ 9223372036854775807) ∧ (-9223372036854775808 ≤ v.m ∧ v.m ≤ 9223372036854775807)
/-- A sum over a list's elements is at most the bulk of the readings, if each is. -/
theorem bulk_sum {H : Type} (D : Nat → DataW H) (f : Nat → Nat) (n : Nat) (h : ∀ i, i < n → f i ≤ Rows.uptoBulk (D i)) : ((List.range n).map f).sum ≤ Rows.uptoBulkAll ((List.range n).map D) := by
  have key : ∀ l : List Nat, (∀ i ∈ l, i < n) → (l.map f).sum ≤ Rows.uptoBulkAll (l.map D) := by
    intro l
    induction l with
    | nil => intro _; simp [Rows.uptoBulkAll]
    | cons a l ih =>
      intro hl
      have h1 := h a (hl a (by simp))
      have h2 := ih fun i hi => hl i (by simp [hi])
      simp only [List.map_cons, List.sum_cons, Rows.uptoBulkAll]
      omega
  exact key _ fun i hi => List.mem_range.1 hi

set_option maxRecDepth 100000 in
theorem val_cells5 {H : Type} {enc : TypeId × Value → H} {W : World} {fuel : Nat} {cs : List Value} {x : DataW H × List MemPlace}
    (hf : DataW.trod enc Tryz.prog W 0 (fun _ => true) true fuel 27 cs = some x) :
    ∃ v : Va, cs = [.int .i64 v.k, .int .i64 v.n, .int .i64 v.m, .string ⟨v.b.toArray⟩] ∧ vin v ∧ (-9223372036854775808 ≤ v.k ∧ v.k ≤ 9223372036854775807) ∧ v.b.length + 1 ≤ Rows.uptoBulk x.1 := by
  obtain ⟨y0, y1, y2, y3, m, hx, hl, h0, h1, h2, h3⟩ := Go.Joins.trod_struct4 Tryz.underlying27 hf
  have hc : Tryz.prog.cellsOf 27 = 4 := by kernel_rfl
  rw [hc] at hl
  match cs, hl with
  | [c0, c1, c2, c3], _ =>
    obtain ⟨a, ea, rfl, wa⟩ := DataW.trod_int Tryz.underlying3 h0
    obtain ⟨b, eb, rfl, wb⟩ := DataW.trod_int Tryz.underlying3 h1
    obtain ⟨c, ec, rfl, wc⟩ := DataW.trod_int Tryz.underlying3 h2
    obtain ⟨s, es, rfl, ws⟩ := DataW.trod_string Tryz.underlying9 h3
    have c1' : Tryz.prog.cellsOf 3 = 1 := by kernel_rfl
    have c2' : Tryz.prog.cellsOf 9 = 1 := by kernel_rfl
    rw [c1'] at ea eb ec
    rw [c2'] at es
    simp at ea eb ec es
    subst ea; subst eb; subst ec; subst es
    refine ⟨⟨a, b, c, s.data.toList⟩, rfl, ⟨in_i64 wb, in_i64 wc⟩, in_i64 wa, ?_⟩
    rw [hx]
    simp [Rows.uptoBulk, Rows.uptoBulkAll]
    omega
theorem cells7 {W : World} {a : Addr} {c0 c1 c2 c3 c4 c5 c6 : Value} (h : W.cells? 0 a 7 = some [c0, c1, c2, c3, c4, c5, c6]) : W.cell? (a.add 0) = some c0 ∧ W.cell? (a.add 1) = some c1 ∧ W.cell? (a.add 2) = some c2 ∧ W.cell? (a.add 3) = some c3 ∧ W.cell? (a.add 4) = some c4 ∧ W.cell? (a.add 5) = some c5 ∧ W.cell? (a.add 6) = some c6 := by
  unfold World.cells? at h
  rw [if_pos (Nat.zero_le _)] at h
  have e : List.range 7 = [0, 1, 2, 3, 4, 5, 6] := rfl
  rw [e] at h
  simp only [List.mapM_cons, List.mapM_nil] at h
  cases h0 : W.cell? (a.add 0) with
  | none => simp [h0] at h
  | some v0 =>
    cases h1 : W.cell? (a.add 1) with
    | none => simp [h0, h1] at h
    | some v1 =>
      cases h2 : W.cell? (a.add 2) with
      | none => simp [h0, h1, h2] at h
      | some v2 =>
        cases h3 : W.cell? (a.add 3) with
        | none => simp [h0, h1, h2, h3] at h
        | some v3 =>
          cases h4 : W.cell? (a.add 4) with
          | none => simp [h0, h1, h2, h3, h4] at h
          | some v4 =>
            cases h5 : W.cell? (a.add 5) with
            | none => simp [h0, h1, h2, h3, h4, h5] at h
            | some v5 =>
              cases h6 : W.cell? (a.add 6) with
              | none => simp [h0, h1, h2, h3, h4, h5, h6] at h
              | some v6 =>
                simp [h0, h1, h2, h3, h4, h5, h6] at h
                obtain ⟨rfl, rfl, rfl, rfl, rfl, rfl, rfl⟩ := h
                exact ⟨rfl, rfl, rfl, rfl, rfl, rfl, rfl⟩

set_option maxRecDepth 100000 in
theorem tok_cells {H : Type} {enc : TypeId × Value → H} {W : World} {fuel : Nat} {cs : List Value} {x : DataW H × List MemPlace}
    (hf : DataW.trod enc Tryz.prog W 0 (fun _ => true) true fuel 31 cs = some x) :
    ∃ t : Ti, cs = (ics t).toList ∧ vin t.v ∧ t.t.length + 1 ≤ Rows.uptoBulk x.1 := by
  obtain ⟨y0, y1, y2, y3, m, hx, hl, h0, h1, h2, h3⟩ := Go.Joins.trod_struct4 Tryz.underlying31 hf
  have hc : Tryz.prog.cellsOf 31 = 7 := by kernel_rfl
  rw [hc] at hl
  match cs, hl with
  | [c0, c1, c2, c3, c4, c5, c6], _ =>
    obtain ⟨a, ea, rfl, wa⟩ := DataW.trod_int Tryz.underlying3 h0
    obtain ⟨s, es, rfl, ws⟩ := DataW.trod_string Tryz.underlying9 h1
    obtain ⟨v, ev, vi, _, _⟩ := val_cells5 h2
    obtain ⟨b, eb, rfl, wb⟩ := DataW.trod_int Tryz.underlying3 h3
    have c1' : Tryz.prog.cellsOf 3 = 1 := by kernel_rfl
    have c2' : Tryz.prog.cellsOf 9 = 1 := by kernel_rfl
    have c4' : Tryz.prog.cellsOf 27 = 4 := by kernel_rfl
    rw [c1'] at ea eb
    rw [c2'] at es
    rw [c4'] at ev
    simp at ea eb es ev
    obtain ⟨e1, e2, e3, e4⟩ := ev
    subst ea; subst eb; subst es; subst e1; subst e2; subst e3; subst e4
    refine ⟨⟨a, s.data.toList, v, b⟩, rfl, vi, ?_⟩
    rw [hx]
    simp [Rows.uptoBulk, Rows.uptoBulkAll]
    omega

theorem bulk_len (l : List Ti) : l.length ≤ (l.map (fun t => t.t.length + 1)).sum := by
  induction l with
  | nil => simp
  | cons a l ih => simp only [List.length_cons, List.map_cons, List.sum_cons]; omega

set_option maxRecDepth 100000 in
theorem toks_open {H : Type} {enc : TypeId × Value → H} {W : World} {a : Option Addr} {len cap fuel : Nat} {cs : List Value} {x : DataW H × List MemPlace}
    (hf : DataW.trod enc Tryz.prog W 0 (fun _ => true) true fuel 22 cs = some x) (hcs : cs = [.slice a len cap]) :
    ∃ l : List Ti, (Tw W a l ∧ l.length = len ∧ len ≤ cap ∧ (∀ v ∈ l, vin v.v) ∧ (l.map (fun t => t.t.length + 1)).sum ≤ Rows.uptoBulk x.1) ∧ (cap = 0 ∨ ∃ es sp, x.1 = .slice es sp ∧ es.length + sp.length = cap) := by
  subst hcs
  have hc7 : Tryz.prog.cellsOf 31 = 7 := by kernel_rfl
  rcases Go.Deep.open_slice Tryz.underlying22 hf with ⟨hcs, _⟩ | ⟨y, l, c, m, n, D, Pl, hcs, _, hl, hm, hmm, hx, hel⟩
  · simp at hcs
    obtain ⟨rfl, rfl, rfl⟩ := hcs
    exact ⟨[], ⟨fun h => by simp at h, rfl, Nat.le_refl _, (fun v h => by simp at h), by simp⟩, .inl rfl⟩
  · simp at hcs
    obtain ⟨rfl, rfl, rfl⟩ := hcs
    have hmc : m = cap := by simpa using hmm
    rw [hc7] at hel
    have ex : ∀ i, i < len → ∃ v : Ti, W.cells? 0 (y.add (i * 7)) 7 = some (ics v).toList ∧ vin v.v ∧ v.t.length + 1 ≤ Rows.uptoBulk (D i) := by
      intro i hi
      obtain ⟨cs', h1, h2⟩ := hel i (by omega)
      obtain ⟨v, rfl, hv, hb⟩ := tok_cells h2
      exact ⟨v, h1, hv, hb⟩
    let f : Nat → Ti := fun i => if h : i < len then (ex i h).choose else ⟨0, [], ⟨0, 0, 0, []⟩, 0⟩
    have hf : ∀ i (h : i < len), W.cells? 0 (y.add (i * 7)) 7 = some (ics (f i)).toList ∧ vin (f i).v ∧ (f i).t.length + 1 ≤ Rows.uptoBulk (D i) := by
      intro i h
      have : f i = (ex i h).choose := dif_pos h
      rw [this]
      exact (ex i h).choose_spec
    refine ⟨(List.range len).map f, ⟨?_, by simp, by omega, ?_, ?_⟩, .inr ⟨_, _, by rw [hx], by simp; omega⟩⟩
    · intro hp
      simp only [List.length_map, List.length_range] at hp
      obtain ⟨b, off, spot⟩ := y
      have h0 := cells7 (hf 0 hp).1
      have hspot : spot = none := by simpa [Addr.add] using World.cell?_spot h0.1
      subst hspot
      refine ⟨b, off, rfl, fun i hi => ?_⟩
      simp only [List.length_map, List.length_range] at hi
      obtain ⟨g0, g1, g2, g3, g4, g5, g6⟩ := cells7 (hf i hi).1
      simp only [Addr.add_lit] at g0 g1 g2 g3 g4 g5 g6
      simp only [List.getElem_map, List.getElem_range]
      exact ⟨g0, g1, g2, g3, g4, g5, g6⟩
    · intro v hv
      simp only [List.mem_map, List.mem_range] at hv
      obtain ⟨i, hi, rfl⟩ := hv
      exact (hf i hi).2.1
    · rw [hx]
      have := bulk_sum D (fun i => (f i).t.length + 1) len fun i hi => (hf i hi).2.2
      simp only [Rows.uptoBulk, List.map_map]
      have e : ((List.range len).map ((fun t : Ti => t.t.length + 1) ∘ f)) = (List.range len).map (fun i => (f i).t.length + 1) := rfl
      rw [e]
      omega
end Go.Proofs.YtoadhfcjegfanaaGreatDoor
