/-
  The contract of longstoplaw05.knows: whatever lies in memory, it answers true, and nothing that was there has changed.
  What every claim of this seat shares: the listed tables as the walks ask for them.
-/
import Derived.Test.YtoadhfcjegfanaaGreatDoorLJoin
import Derived.Test.YtoadhfcjegfanaaGreatDoorRows
import Derived.Test.YtoadhfcjegfanaaGreatDoorCards
import Derived.Test.YtoadhfcjegfanaaGreatDoorTie
import Derived.ProofKit
import Derived.LaidMore
import Derived.OpenShut
import Derived.ShutString
import Derived.Stop.Joined
import Derived.Lib.LaidTab
import Derived.Lib.LaidU8T
import Derived.Lib.LaidIn
import Derived.Lib.SmallJoins
import Derived.PinnedBridge
import Derived.Lay
import Derived.LaidOnce
import Derived.SevenTiedAt
import Derived.ChangeSame
import Derived.SizedLaws
import Derived.Deep.Slices
namespace Go.Proofs.YtoadhfcjegfanaaGreatDoor
open Go.RowKit Go.Shelf
attribute [local go_sem] cell?_more frozen?_more setCell_more more_lt more_more more_drew more_drewN setCell_drewN alloc_drewN

/-- The text that is known, and its tokens. -/
abbrev K0 : List UInt8 := [97, 49, 60, 61, 50, 46, 53]
abbrev K1 : Tok := ⟨1, [97, 49], vz, 0⟩
abbrev K2 : Tok := ⟨2, [60, 61], vz, 2⟩
abbrev K3 : Tok := ⟨3, [50, 46, 53], ⟨2, 25, 1, []⟩, 4⟩

theorem dpv_25 : dpv [50, 46, 53] = some ⟨2, 25, 1, []⟩ := by
  have hPR : PR [50, 46, 53] = some (false, 25, 1) := by decide +kernel
  have hb := (PR_back [50, 46, 53] false 25 1 hPR (by decide +kernel)).2
  have htl : tlv [50, 46, 53] = (⟨2, 25, 1, []⟩, true) := by
    unfold tlv tnv
    rw [if_neg (by decide), show trimP [50, 46, 53] = [50, 46, 53] by decide, hPR]
    rfl
  have hvr : vr ⟨2, 25, 1, []⟩ = true := by decide +kernel
  unfold dpv
  rw [htl]
  have hp : pv ⟨2, 25, 1, []⟩ = [50, 46, 53] := by
    unfold pv
    rw [if_pos hvr]
    show dpt 25 1 = _
    unfold dpt
    rw [if_neg (by decide), List.append_nil]
    exact hb
  rw [if_pos ⟨rfl, hp⟩]

theorem lex_K0 : lexL vz dpv K0 0 = some [K1, K2, K3] := by
  rw [lex_tok _ _ _ (by decide)]
  have t1 : tok vz dpv K0 0 = some K1 := by
    have h : lxt K0 = (1, 2) := by decide +kernel
    unfold tok; rw [h]; rfl
  rw [t1]
  show (lexL vz dpv [60, 61, 50, 46, 53] 2).map _ = _
  rw [lex_tok _ _ _ (by decide)]
  have t2 : tok vz dpv [60, 61, 50, 46, 53] 2 = some K2 := by
    have h : lxt [60, 61, 50, 46, 53] = (2, 2) := by decide +kernel
    unfold tok; rw [h]; rfl
  rw [t2]
  show Option.map _ ((lexL vz dpv [50, 46, 53] 4).map _) = _
  rw [lex_tok _ _ _ (by decide)]
  have t3 : tok vz dpv [50, 46, 53] 4 = some K3 := by
    have h : lxt [50, 46, 53] = (3, 3) := by decide +kernel
    unfold tok
    rw [h, if_neg (by decide), if_neg (by decide), if_pos rfl, show ([50, 46, 53] : List UInt8).take (3, 3).2 = [50, 46, 53] from rfl, dpv_25]
  rw [t3]
  rfl

theorem right_K1 : rtok (tin K1) = true := by
  have h : lexL vz dpv [97, 49] 0 = some [K1] := by
    rw [lex_tok _ _ _ (by decide)]
    have t1 : tok vz dpv [97, 49] 0 = some K1 := by
      have h : lxt [97, 49] = (1, 2) := by decide +kernel
      unfold tok; rw [h]; rfl
    rw [t1]; rfl
  unfold rtok
  rw [if_pos (by decide)]
  show rt1 (lexL vz dpv [97, 49] 0) _ = true
  rw [h]; rfl
theorem right_K2 : rtok (tin K2) = true := by
  have h : lexL vz dpv [60, 61] 0 = some [⟨2, [60, 61], vz, 0⟩] := by
    rw [lex_tok _ _ _ (by decide)]
    have t1 : tok vz dpv [60, 61] 0 = some ⟨2, [60, 61], vz, 0⟩ := by
      have h : lxt [60, 61] = (2, 2) := by decide +kernel
      unfold tok; rw [h]; rfl
    rw [t1]; rfl
  unfold rtok
  rw [if_pos (by decide)]
  show rt1 (lexL vz dpv [60, 61] 0) _ = true
  rw [h]; rfl
theorem right_K3 : rtok (tin K3) = true := by
  have h : lexL vz dpv [50, 46, 53] 0 = some [⟨3, [50, 46, 53], ⟨2, 25, 1, []⟩, 0⟩] := by
    rw [lex_tok _ _ _ (by decide)]
    have t1 : tok vz dpv [50, 46, 53] 0 = some ⟨3, [50, 46, 53], ⟨2, 25, 1, []⟩, 0⟩ := by
      have h : lxt [50, 46, 53] = (3, 3) := by decide +kernel
      unfold tok
      rw [h, if_neg (by decide), if_neg (by decide), if_pos rfl, show ([50, 46, 53] : List UInt8).take (3, 3).2 = [50, 46, 53] from rfl, dpv_25]
    rw [t1]; rfl
  unfold rtok
  rw [if_pos (by decide)]
  show rt1 (lexL vz dpv [50, 46, 53] 0) _ = true
  rw [h]; rfl
theorem join_K : joinT [tin K1, tin K2, tin K3] = [97, 49, 32, 60, 61, 32, 50, 46, 53] := by
  unfold joinT
  rw [if_pos (by simp only [List.all_cons, List.all_nil, right_K1, right_K2, right_K3]; rfl)]
  rfl

theorem num5_any (n : Int) (w : World) : Calls Tryz.prog 19 #[.int .i64 n] w fun e w' => e = .returned (.int .i64 n) ∧ w = w' := by
  go_enter Tryz.func19, Tryz.ntmps19
  go_wp2
  go_ret
  exact ⟨rfl, rfl⟩

set_option maxHeartbeats 4000000 in
theorem knows5_any (w : World) (hT : Tabs w) (hP : Ptab w) : Calls Tryz.prog 17 #[] w fun e w' => e = .returned (.bool true) ∧ Below w.heap.size w w' := by
  have S := split_any K0 w (by decide) hT hP
  rw [lex_K0] at S
  have W := fun W => word_any [97, 95, 49] W (by decide)
  rw [show wordL [97, 95, 49] = true by decide +kernel] at W
  have N := fun W => num5_any 0 W
  go_enter Tryz.func17, Tryz.ntmps17
  go_wp2_with fail
  refine S.mono ?_
  rintro e w1 ⟨⟨sv, rfl, ho⟩, b1⟩
  obtain ⟨ao, cap, rfl, hw⟩ := ho.shape
  have J : ∀ W, Below w1.heap.size w1 W → Calls Tryz.prog 12 #[.slice ao 3 cap] W fun e w' => e = .returned (.string ⟨#[97, 49, 32, 60, 61, 32, 50, 46, 53]⟩) ∧ Below W.heap.size W w' := fun W h => by
    have := join_any ao cap [tin K1, tin K2, tin K3] W (hT.later (b1.trans (h.mono b1.size))) (hP.later (b1.trans (h.mono b1.size))) (hw.later h) (by decide) (by decide)
    rw [join_K] at this
    exact this
  obtain ⟨b, off, rfl, hc⟩ := hw (by simp)
  have h1 := hc 1 (by simp)
  have h2 := hc 2 (by simp)
  have hlt := h1.lt
  have c1 : w1.cell? ⟨b, off + 7 + 1, none⟩ = some (.string ⟨#[60, 61]⟩) := h1.2.1
  have c2 : w1.cell? ⟨b, off + 14 + 2 + 1, none⟩ = some (.int .i64 25) := h2.2.2.2.1
  have c3 : w1.cell? ⟨b, off + 14 + 6, none⟩ = some (.int .i64 4) := h2.2.2.2.2.2.2
  have c2' : w1.cell? ⟨b, off + 14 + 3, none⟩ = some (.int .i64 25) := h2.2.2.2.1
  clear S hT hP ho hw hc h1 h2
  go_wp2_with (first
    | (go_at_call 19; refine (N _).mono ?_; rintro e w' ⟨rfl, rfl⟩)
    | (go_at_call 12; refine (J _ (Below.refl _ _)).mono ?_; rintro e w2 ⟨rfl, b2⟩)
    | (go_at_call 14; refine (W _).mono ?_; rintro e w' ⟨rfl, rfl⟩))
  go_ret
  exact ⟨rfl, below_trans b1 b2⟩
end Go.Proofs.YtoadhfcjegfanaaGreatDoor

namespace Go.Proofs.YtoadhfcjegfanaaGreatDoor
open Go.ChangeShapes Go.WideShapes Go.ChangeAt Go.WideMaps Go.WideElems Go.RowKit Go.Shelf Go.Lib

theorem own : ownKnob Tryz.prog.godebug = none := by kernel_rfl
theorem laidOut : laidOutB Tryz.prog = true := by kernel_rfl

theorem tabs_of {W : World} (h1 : VarReads Tryz.prog W "unicode/utf8.first" Rows.laid_unicode_utf8_first) (h2 : VarReads Tryz.prog W "unicode/utf8.acceptRanges" Rows.laid_unicode_utf8_acceptRanges) : Tabs W :=
  utf8Tabs_of_readsT (U8Types.of196 Tryz.laysValid) ⟨by kernel_rfl, by kernel_rfl, by kernel_rfl, by kernel_rfl, by kernel_rfl, by kernel_rfl, by kernel_rfl⟩
    (Pinned.utf8First_eq ▸ h1) ((show Rows.laid_unicode_utf8_acceptRanges = Lib.acceptData by kernel_rfl) ▸ h2)

theorem ptab_of {W : World} (h : VarReads Tryz.prog W "internal/strconv.uint64pow10" Rows.laid_internal_strconv_uint64pow10) : Ptab W := by
  obtain ⟨g', t', cs, fuel, p, hg', ht', hvar, hd⟩ := h
  have hg : Tryz.prog.globalNamed "internal/strconv.uint64pow10" = some 4 := by kernel_rfl
  have hty : (Tryz.prog.globals[4]?).map (·.type) = some 208 := by kernel_rfl
  obtain rfl := Option.some.inj (hg.symm.trans hg')
  obtain rfl := Option.some.inj (hty.symm.trans ht')
  have hd' : DataW.trod (fun _ => ()) Tryz.prog W 0 (fun _ => true) false fuel 208 cs.toList = some (Lib.tabData .u64 Lib.pow10Tab, p) := by
    rw [hd, show Rows.laid_internal_strconv_uint64pow10 = Lib.tabData (H := Unit) .u64 Lib.pow10Tab by kernel_rfl]
  unfold Ptab Lib.TabIs
  rw [hvar, ← cells_of_tab Tryz.underlying208 Tryz.underlying127 (by kernel_rfl) (by kernel_rfl) hd']
theorem in_i64 {a : Int} (h : (Lit.int .i64 a).wf = true) : -9223372036854775808 ≤ a ∧ a ≤ 9223372036854775807 := bounds_i64 h
end Go.Proofs.YtoadhfcjegfanaaGreatDoor
