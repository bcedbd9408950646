/-
  The contract of the document's write: the page in whose slots the records are, without the empty ones at the end.
-/
import Derived.Test.YtaghbkjjindjfaaDoorPgZ
import Derived.Test.YtaghbkjjindjfaaDoorPgX
import Derived.Test.YtaghbkjjindjfaaDoorPgRS
import Derived.Deep.CutBlock
import Derived.Deep.AppendLies
import Derived.Deep.RegionHeld3
namespace Go.Proofs.YtaghbkjjindjfaaDoor
open Go.RowKit

theorem Bw.take {w : World} {ao : Option Addr} {cs : List Cn} (h : Bw w ao cs) (k : Nat) : Bw w ao (cs.take k) := by
  intro hp
  obtain ⟨b, off, e, hc⟩ := h (by simp at hp; omega)
  refine ⟨b, off, e, fun i hi => ?_⟩
  simp only [List.getElem_take]
  exact hc i (by simp at hi; omega)
theorem two_at (n : Nat) (i : Int) (w : World) (hn : n < 65536) (h : i = (n : Int)) :
    Calls Tryd.prog 44 #[.int .i64 i] w fun e w' => (∃ cp, e = .returned (.slice (some ⟨w.heap.size, 0, none⟩) 2 cp) ∧ Rd w' (some ⟨w.heap.size, 0, none⟩) 2 cp (two n)) ∧ Below w.heap.size w w' := by
  subst h; exact two_any n w hn
theorem bv_ones (l : List UInt8) : ∀ u ∈ bv l, u.oneCell' = true := fun u hu => by
  obtain ⟨_, _, rfl⟩ := List.mem_map.1 hu
  rfl
theorem cells_of_rd {w : World} {b off n cap : Nat} {bs : List UInt8} (h : Rd w (some ⟨b, off, none⟩) n cap bs) (hn : 0 < n) : ∀ j u, (bv bs)[j]? = some u → w.cell? ((⟨b, off, none⟩ : Addr).add j) = some u := by
  intro j u hj
  obtain ⟨b', off', e, hc⟩ := h.2.2.2.2 hn
  cases e
  have hjl : j < bs.length := by have := (List.getElem?_eq_some_iff.1 hj).1; rwa [bv_length] at this
  rw [bv_at bs j hjl] at hj
  rw [Addr.add_lit, ← Option.some.inj hj]
  exact hc j hjl
theorem own_app {w : World} {base n : Nat} {v : Value} {a b : List UInt8} (h : w.ownsRow base 5 1 v n (bv a ++ bv b)) : Own w base v (a ++ b) := by
  refine own_of (n := n) ?_
  rw [bv_append]; exact h

set_option maxHeartbeats 1000000 in
theorem two_own (n : Nat) (w : World) (hn : n < 65536) :
    Calls Tryd.prog 44 #[.int .i64 (n : Int)] w fun e w' => e = .returned (.slice (some ⟨w.heap.size, 0, none⟩) 2 2) ∧ Own w' w.heap.size (.slice (some ⟨w.heap.size, 0, none⟩) 2 2) (two n) ∧ Below w.heap.size w w' := by
  go_enter Tryd.func44, Tryd.ntmps44
  go_wp2
  go_ret
  refine ⟨rfl, ?_, (Below.refl _ _).alloc (Nat.le_refl _) _⟩
  have hP : Pb (w.alloc (.cells #[.int .u8 ((n : Int) / 256), .int .u8 ((n : Int) % 256)] 5)) w.heap.size (two n) := by
    rw [byte_hi n hn, byte_lo n]
    exact heap_alloc_new w _
  exact hP.own (Nat.le_refl _) (by rw [two_len]; decide)

/-- Two rows of bytes of one's own, in blocks of their own. -/
structure WB (N : Nat) (w0 w : World) (vb vr : Value) (B R : List UInt8) : Prop where
  b : Own w N vb B
  r : Own w N vr R
  a : vr.ownBlock = none ∨ vr.ownBlock ≠ vb.ownBlock
  bel : Below N w0 w
  le : N ≤ w.heap.size
theorem WB.later {N : Nat} {w0 w w' : World} {vb vr : Value} {B R : List UInt8} (h : WB N w0 w vb vr B R) (hb : Below w.heap.size w w') : WB N w0 w' vb vr B R :=
  ⟨h.b.later hb, h.r.later hb, h.a, h.bel.trans (hb.mono h.le), Nat.le_trans h.le hb.size⟩
theorem WB.appB {N : Nat} {w0 w w' : World} {vb vr v' : Value} {B R X : List UInt8} {n : Nat} (h : WB N w0 w vb vr B R) (ho : w'.ownsRow N 5 1 v' n (bv B ++ bv X)) (hg : w.grownBy w' vb.ownBlock) (hv : v'.ownBlock = vb.ownBlock ∨ v'.ownBlock = some w.heap.size) :
    WB N w0 w' v' vr (B ++ X) R := by
  refine ⟨own_app ho, World.ownsRow.kept h.r hg h.a, ?_, h.bel.grown hg h.le (fun k hk => (World.ownsRow.lt h.b k hk).1), Nat.le_trans h.le hg.size⟩
  rcases hv with e | e
  · rw [e]; exact h.a
  · cases hr : vr.ownBlock with
    | none => exact .inl rfl
    | some g =>
      refine .inr fun e' => ?_
      rw [e] at e'
      have := (World.ownsRow.lt h.r g hr).2
      cases e'
      omega
theorem WB.appL {N : Nat} {w0 w w' : World} {vb vr : Value} {g cap m : Nat} {B R X : List UInt8} {n : Nat} (h : WB N w0 w vb vr B R) (ho : w'.ownsRow N 5 1 (.slice (some ⟨g, 0, none⟩) m cap) n (bv B ++ bv X)) (hg : w.grownBy w' vb.ownBlock) (hv : vb.ownBlock = some g ∨ g = w.heap.size) :
    WB N w0 w' (.slice (some ⟨g, 0, none⟩) m cap) vr (B ++ X) R := by
  refine h.appB ho hg ?_
  rcases hv with e | e
  · exact .inl e.symm
  · exact .inr (by rw [← e]; rfl)
theorem WB.cell {N : Nat} {w0 w w' : World} {vb vr : Value} {B R : List UInt8} {p : Addr} (h : WB N w0 w vb vr B R) (hg : w.grownBy w' vb.ownBlock) (hp : p.block < N) : w'.cell? p = w.cell? p := by
  refine World.cell?_of_block (hg.block _ (Nat.lt_of_lt_of_le hp h.le) (fun e => ?_))
  have := (World.ownsRow.lt h.b _ e.symm).1
  omega
theorem WB.newR {N : Nat} {w0 w w' : World} {vb vr u : Value} {B R R' : List UInt8} (h : WB N w0 w vb vr B R) (hb : Below w.heap.size w w') (ho : Own w' N u R') (hu : ∀ g, u.ownBlock = some g → w.heap.size ≤ g) : WB N w0 w' vb u B R' := by
  refine ⟨h.b.later hb, ho, ?_, h.bel.trans (hb.mono h.le), Nat.le_trans h.le hb.size⟩
  cases hg : u.ownBlock with
  | none => exact .inl rfl
  | some g =>
    refine .inr fun e => ?_
    have h1 := hu g hg
    have h2 := (World.ownsRow.lt h.b g e.symm).2
    omega
theorem WB.recd {N : Nat} {w0 w w9 w10 : World} {vb vr u2 u3 : Value} {B R b : List UInt8} {m' : Nat} (h : WB N w0 w vb vr B R) (hg9 : (w.alloc (.cells #[] 5)).grownBy w9 (some w.heap.size))
    (hat9 : u2.ownBlock = some w.heap.size ∨ u2.ownBlock = some (w.alloc (.cells #[] 5)).heap.size) (ho10 : w10.ownsRow N 5 1 u3 m' (bv b ++ bv R)) (hg10 : w9.grownBy w10 u2.ownBlock)
    (hat10 : u3.ownBlock = u2.ownBlock ∨ u3.ownBlock = some w9.heap.size) : WB N w0 w10 vb u3 B (b ++ R) := by
  have hs : (w.alloc (.cells #[] 5)).heap.size = w.heap.size + 1 := by simp
  have hu2 : ∀ g, u2.ownBlock = some g → w.heap.size ≤ g := by
    intro g hg
    rcases hat9 with e | e <;> rw [e] at hg <;> cases hg <;> omega
  have h9 := hg9.size
  have B1 : Below w.heap.size w (w.alloc (.cells #[] 5)) := (Below.refl _ w).alloc (Nat.le_refl _) _
  have B2 := B1.grown hg9 (by omega) (fun k hk => by cases hk; exact Nat.le_refl _)
  have B3 := B2.grown hg10 (by omega) (fun k hk => hu2 k hk)
  refine h.newR B3 (own_app ho10) (fun g hg => ?_)
  rcases hat10 with e | e
  · rw [e] at hg; exact hu2 g hg
  · rw [e] at hg; cases hg; omega

set_option maxRecDepth 20000 in
set_option maxHeartbeats 4000000 in
theorem rwrite_any (ao : Option Addr) (cap : Nat) (cs : List Cn) (l : List Slt) (w : World) (hc : Bw w ao cs) (hr : CsR w cs l) (hcap : cs.length ≤ cap) (hm : cap ≤ maxLen) (hf : fits l) :
    Calls Tryd.prog 32 #[.slice ao cs.length cap] w fun e w' => ∃ v l2, e = .returned v ∧ Strips l l2 ∧ Own w' w.heap.size v (pageL l2) ∧ Below w.heap.size w w' := by
  obtain ⟨i0, hi, hz0, hz1, hz2⟩ := info_parts Tryd.info5
  have hcnt := fits_count hf
  have HF : Hid (fits l) := hf
  obtain ⟨n, hn⟩ : ∃ n, cs.length = n := ⟨_, rfl⟩
  have HN : Hid (cs.length = n) := hn
  rw [← hr.1, hn] at hcnt
  rw [hn] at hcap
  rw [show (Value.slice ao cs.length cap) = .slice ao n cap by rw [hn]]
  clear hn hf
  unfold maxLen at hm
  go_enter Tryd.func32, Tryd.ntmps32
  go_upto_block 0 with fail
  go_cut [0] from 9 (fun s0 wx => wx = w ∧ ∃ k, k ≤ n ∧ s0 = .slice ao k cap ∧ Hid (Strips l (l.take k)))
  case first =>
    go_wp2_with fail
    go_loop [0] (fun v => ∃ (k : Nat), k ≤ n ∧ v = .slice ao k cap ∧ Hid (∀ i (h : i < cs.length), k ≤ i → cs[i].t = false)) (fun v => slen v)
    case atStart => exact ⟨n, Nat.le_refl _, rfl, fun i h h' => absurd h (by rw [HN.out]; omega)⟩
    case round =>
      obtain ⟨k, hk, rfl, hm'⟩ := hrel
      rcases Nat.eq_zero_or_pos k with hz | hz
      · subst hz
        have HS : Hid (Strips l (l.take 0)) := strips_of hr (Nat.zero_le _) hm'.out (fun j _ h => absurd h (by omega))
        clear hr hc
        go_wp2
        go_meet
        exact ⟨rfl, 0, by omega, rfl, HS⟩
      · obtain ⟨j, rfl⟩ : ∃ j, k = j + 1 := ⟨k - 1, by omega⟩
        have hkl : j < cs.length := by rw [HN.out]; omega
        obtain ⟨b, off, rfl, hA⟩ := hc (by omega)
        have hA := hA j hkl
        obtain ⟨c, hck⟩ : ∃ c, c = cs[j] := ⟨_, rfl⟩
        rw [← hck] at hA
        have HC : Hid (c = cs[j]) := hck
        have HR : Hid (CsR w cs l) := hr
        clear hck hc hr
        obtain ⟨ct, cao, cn, ccap⟩ := c
        obtain ⟨h1, h2⟩ := hA
        have hj0 : (0 : Int) < ((j + 1 : Nat) : Int) := by omega
        have hjc : ((j : Nat) : Int) ≤ (cap : Int) := by omega
        have hc0 : ¬ cap = 0 := by omega
        cases ct with
        | true =>
          have HS : Hid (Strips l (l.take (j + 1))) := strips_of HR.out (by rw [HN.out]; omega) hm'.out (fun i h e => by
            obtain rfl : i = j := by omega
            rw [← HC.out])
          go_wp2
          go_meet
          exact ⟨rfl, j + 1, by omega, rfl, HS⟩
        | false =>
          go_wp2
          go_round
          case rel =>
            refine ⟨j, by omega, rfl, fun i h h' => ?_⟩
            rcases Nat.eq_or_lt_of_le h' with e | e
            · subst e
              rw [← HC.out]
            · exact hm'.out i h (by omega)
          case measure => simp [slen]
  case rest =>
    obtain ⟨rfl, k, hk, rfl, HS⟩ := hcut
    obtain ⟨cs2, hcs2⟩ : ∃ cs2, cs2 = cs.take k := ⟨_, rfl⟩
    obtain ⟨l2, hl2⟩ : ∃ l2, l2 = l.take k := ⟨_, rfl⟩
    have hc2 : Bw wc ao cs2 := by rw [hcs2]; exact hc.take k
    have hr2 : CsR wc cs2 l2 := by rw [hcs2, hl2]; exact hr.take k
    have HF2 : Hid (fits l2) := by rw [hl2]; exact fits_take l k HF.out
    have HC2 : Hid (cs2.length = k) := by rw [hcs2, List.length_take, HN.out, Nat.min_eq_left hk]; rfl
    have HL2 : Hid (l2.length = k) := by rw [← hr2.1]; exact HC2.out
    rw [← hl2] at HS
    clear hcs2 hl2 hc hr HF HN
    have hk125 : k ≤ 125 := by omega
    go_wp2_with fail
    refine (two_own k _ (by omega)).mono ?_
    rintro e w1 ⟨rfl, ho1, b1⟩
    have hW1 : WB wc.heap.size wc w1 (.slice (some ⟨wc.heap.size, 0, none⟩) 2 2) (.slice none 0 0) (two k ++ heads 504 (l2.take 0)) (recs (l2.take 0)) := by
      simp only [List.take_zero, heads, List.append_nil]
      exact ⟨ho1, World.ownsRow_nil _ _ _ _, .inl rfl, b1, b1.size⟩
    go_wp2_with fail
    go_loopw [3, 4, 5, 6] (fun s3 s4 s5 s6 wr => ∃ (vb vr : Value) (j a : Nat), vb = s3 ∧ vr = s4 ∧ j ≤ k ∧ s6 = .int .i64 j ∧ s5 = .int .i64 (a : Int) ∧ Hid (a + used (l2.take j) = 504) ∧ Hid (WB wc.heap.size wc wr vb vr (two k ++ heads 504 (l2.take j)) (recs (l2.take j)))) (fun _ _ _ i _ => k - (intOf i).toNat)
    case atStart => exact ⟨_, _, 0, 504, rfl, rfl, Nat.zero_le _, rfl, rfl, rfl, hW1⟩
    case round =>
      clear ho1 b1 hW1
      obtain ⟨vb, vr, j, a, rfl, rfl, hj, rfl, rfl, ha, hW⟩ := hrel
      obtain ⟨ar, cr, rfl, -, -⟩ := hW.out.r.rd
      by_cases hlt : j < k
      · have hkl : j < cs2.length := by rw [HC2.out]; exact hlt
        have hkl' : j < l2.length := by rw [HL2.out]; exact hlt
        obtain ⟨sb0, so0, rfl, hA⟩ := hc2 (by omega)
        have hA := (hA j hkl).later hW.out.bel
        have hblc : sb0 < wc.heap.size := by
          obtain ⟨b', o', e', hA'⟩ := hc2 (by omega)
          cases e'
          exact (hA' j hkl).lt
        have hR := hr2.2 j hkl hkl'
        have hul := used_le l2 j hkl'
        have hfl := HF2.out
        unfold fits at hfl
        rw [HL2.out] at hfl hul
        obtain ⟨s, hs⟩ : ∃ s, s = l2[j] := ⟨_, rfl⟩
        have HS2 : Hid (l2[j] = s) := hs.symm
        rw [← hs] at hR hul
        generalize cs2[j] = c at hA hR
        clear hs
        have hlB : (two k ++ heads 504 (l2.take j)).length = 2 + 4 * j := by rw [List.length_append, two_len, heads_len, List.length_take, HL2.out]; omega
        have hwz := hW.out.le
        cases s with
        | none =>
          obtain rfl : c = Cn.z := hR
          obtain ⟨h1, h2⟩ := hA
          clear hfl hul
          have HT : Hid (two k ++ heads 504 (l2.take (j + 1)) = (two k ++ heads 504 (l2.take j)) ++ [0, 0, 0, 0]) := by
            show _ = _
            rw [List.take_succ_eq_append_getElem hkl', heads_append, HS2.out]
            simp only [heads, fldB, List.append_nil, List.append_assoc]
          have HRT : Hid (recs (l2.take (j + 1)) = recs (l2.take j)) := by
            show _ = _
            rw [List.take_succ_eq_append_getElem hkl', recs_append, HS2.out]
            simp [recs, sb]
          have HU : Hid (a + used (l2.take (j + 1)) = 504) := by
            show _ = _
            rw [used_take l2 j hkl', HS2.out]
            exact ha.out
          generalize two k ++ heads 504 (l2.take j) = B at *
          generalize recs (l2.take j) = R at *
          have hlB2 : B.length ≤ 502 := by omega
          have A4 := (Below.refl wr.heap.size wr).alloc (Nat.le_refl _) (.cells #[.int .u8 0, .int .u8 0, .int .u8 0, .int .u8 0] 5)
          have P4 : Pb (wr.alloc (.cells #[.int .u8 0, .int .u8 0, .int .u8 0, .int .u8 0] 5)) wr.heap.size [0, 0, 0, 0] := heap_alloc_new wr _
          have R4 : Rd (wr.alloc (.cells #[.int .u8 0, .int .u8 0, .int .u8 0, .int .u8 0] 5)) (some ⟨wr.heap.size, 0, none⟩) 4 4 [0, 0, 0, 0] := P4.rd 0 4 4 (by simp) (Nat.le_refl _) (by decide)
          have HW4 := hW.out.later A4
          clear hlB ha hW P4 A4
          go_wp2_with (at_builtin; refine wpList_append_lies2 rfl (.tmp 42) (.tmp 43) 22 22 rfl wc.heap.size 5 i0 (.int .u8 0) 1 1 Tryd.underlying22 hi hz0 hz1 hz2 rfl _ _ _ rfl HW4.b _ 4 (bv [0, 0, 0, 0]) rfl (src_of_rd Tryd.underlying22 R4) (by unfold maxLen; omega) (by omega) HW4.le ?_; intro v5 w5 ho5 hgr5 hat5)
          have HW5 := HW4.appB ho5 hgr5 hat5
          clear ho5 hgr5 hat5 HW4 R4
          go_wp2
          go_roundw
          case rel => exact ⟨_, _, j + 1, a, rfl, rfl, by omega, by go_num, rfl, HU, by rw [HT.out, HRT.out]; exact HW5⟩
          case measure => simp [intOf]; omega
        | some b =>
          obtain ⟨ct, cao, cn, ccap⟩ := c
          obtain ⟨rfl, hrd⟩ := hR
          obtain ⟨h1, h2⟩ := hA
          have hbl' : b.length = cn := hrd.1
          simp only [sb, Option.getD_some] at hul
          have ha' := ha.out
          obtain ⟨en, rfl⟩ : ∃ en, a = en + cn := ⟨a - cn, by omega⟩
          have hen : en + cn ≤ 504 := by omega
          have hblt : sb0 < wr.heap.size := by omega
          have hx1 : wr.cell? ⟨sb0, so0 + j * 2, none⟩ = some (.slice cao cn ccap) := h1
          have HT : Hid (two k ++ heads 504 (l2.take (j + 1)) = (two k ++ heads 504 (l2.take j)) ++ two en ++ two cn) := by
            rw [List.take_succ_eq_append_getElem hkl', heads_append, HS2.out]
            simp only [heads, fldB, List.append_nil, List.append_assoc]
            rw [hbl', show 504 - used (l2.take j) - cn = en by omega]
            rfl
          have HRT : Hid (recs (l2.take (j + 1)) = b ++ recs (l2.take j)) := by
            show _ = _
            rw [List.take_succ_eq_append_getElem hkl', recs_append, HS2.out]
            simp [recs, sb]
          have HU : Hid (en + used (l2.take (j + 1)) = 504) := by
            rw [used_take l2 j hkl', HS2.out]
            simp only [sb, Option.getD_some]
            show _ = _
            omega
          have HBL : Hid (b.length = cn) := hbl'
          have hrl : (recs (l2.take j)).length ≤ 504 := by rw [recs_len]; omega
          generalize two k ++ heads 504 (l2.take j) = B at *
          generalize recs (l2.take j) = R at *
          have hlB2 : B.length ≤ 502 := by omega
          have HLB : Hid (B.length = 2 + 4 * j) := hlB
          clear hul hfl hlB ha' hbl' ha
          go_wp2_with fail
          refine wp_region_held_drew (S := (fun W => W.cell? ⟨sb0, so0 + j * 2, none⟩ = some (.slice cao cn ccap))) (by kernel_rfl) ?_ (fun hHeld => ?_)
          · ((try dsimp only); exact hx1)
          refine wpAnyH_take (i := 0) (oi := { dst := some 53, op := Go.Op.move (Go.Operand.tmp 3), type := 22, pos := "ref.go:54", after := #[], guard := none }) (v := ?_) rfl (by kernel_rfl) (by kernel_rfl) (by kernel_rfl) (fun _ _ _ h => h) (Or.inl ⟨by rfl, ?_⟩) (by assumption) ?_
          rotate_left
          · (intro W hSw; (try dsimp only at hSw); first | (go_simp; done) | (go_simp; with_reducible rfl))
          try simp only [Act.put, List.setIfInBounds_toArray, List.set_cons_zero, List.set_cons_succ]
          refine wpAnyH_take (i := 1) (oi := { dst := some 54, op := Go.Op.move (Go.Operand.tmp 5), type := 3, pos := "ref.go:54", after := #[], guard := none }) (v := ?_) rfl (by kernel_rfl) (by kernel_rfl) (by kernel_rfl) (fun _ _ _ h => h) (Or.inl ⟨by rfl, ?_⟩) (by assumption) ?_
          rotate_left
          · (intro W hSw; (try dsimp only at hSw); first | (go_simp; done) | (go_simp; with_reducible rfl))
          try simp only [Act.put, List.setIfInBounds_toArray, List.set_cons_zero, List.set_cons_succ]
          refine wpAnyH_take (i := 4) (oi := { dst := some 57, op := Go.Op.move (Go.Operand.tmp 0), type := 50, pos := "ref.go:54", after := #[], guard := none }) (v := ?_) rfl (by kernel_rfl) (by kernel_rfl) (by kernel_rfl) (fun _ _ _ h => h) (Or.inl ⟨by rfl, ?_⟩) (by assumption) ?_
          rotate_left
          · (intro W hSw; (try dsimp only at hSw); first | (go_simp; done) | (go_simp; with_reducible rfl))
          try simp only [Act.put, List.setIfInBounds_toArray, List.set_cons_zero, List.set_cons_succ]
          refine wpAnyH_take (i := 5) (oi := { dst := some 58, op := Go.Op.move (Go.Operand.tmp 6), type := 3, pos := "ref.go:54", after := #[], guard := none }) (v := ?_) rfl (by kernel_rfl) (by kernel_rfl) (by kernel_rfl) (fun _ _ _ h => h) (Or.inl ⟨by rfl, ?_⟩) (by assumption) ?_
          rotate_left
          · (intro W hSw; (try dsimp only at hSw); first | (go_simp; done) | (go_simp; with_reducible rfl))
          try simp only [Act.put, List.setIfInBounds_toArray, List.set_cons_zero, List.set_cons_succ]
          refine wpAnyH_take (i := 6) (oi := { dst := some 59, op := Go.Op.indexAddr 50 (Go.Operand.tmp 57) (Go.Operand.tmp 58), type := 0, pos := "ref.go:54", after := #[{ on := 4, ground := Go.Ground.data }, { on := 5, ground := Go.Ground.data }], guard := none }) (v := ?_) rfl (by kernel_rfl) (by kernel_rfl) (by kernel_rfl) (fun _ _ _ h => h) (Or.inl ⟨by rfl, ?_⟩) (by assumption) ?_
          rotate_left
          · (intro W hSw; (try dsimp only at hSw); first | (go_simp; done) | (go_simp; with_reducible rfl))
          try simp only [Act.put, List.setIfInBounds_toArray, List.set_cons_zero, List.set_cons_succ]
          refine wpAnyH_take (i := 7) (oi := { dst := some 60, op := Go.Op.fieldAddr 54 (Go.Operand.tmp 59) 0, type := 0, pos := "ref.go:54", after := #[{ on := 6, ground := Go.Ground.data }], guard := none }) (v := ?_) rfl (by kernel_rfl) (by kernel_rfl) (by kernel_rfl) (fun _ _ _ h => h) (Or.inl ⟨by rfl, ?_⟩) (by assumption) ?_
          rotate_left
          · (intro W hSw; (try dsimp only at hSw); first | (go_simp; done) | (go_simp; with_reducible rfl))
          try simp only [Act.put, List.setIfInBounds_toArray, List.set_cons_zero, List.set_cons_succ]
          refine wpAnyH_take (i := 8) (oi := { dst := some 61, op := Go.Op.load 22 (Go.Operand.tmp 60), type := 22, pos := "ref.go:54", after := #[{ on := 7, ground := Go.Ground.data }], guard := none }) (v := ?_) rfl (by kernel_rfl) (by kernel_rfl) (by kernel_rfl) (fun _ _ _ h => h) (Or.inl ⟨by rfl, ?_⟩) (by assumption) ?_
          rotate_left
          · (intro W hSw; (try dsimp only at hSw); first | (go_simp; done) | (go_simp; with_reducible rfl))
          try simp only [Act.put, List.setIfInBounds_toArray, List.set_cons_zero, List.set_cons_succ]
          refine wpAnyH_take (i := 9) (oi := { dst := some 62, op := Go.Op.call { callee := Go.Callee.builtin Go.Builtin.len, args := #[Go.Operand.tmp 61], argTypes := #[22] }, type := 3, pos := "ref.go:54", after := #[{ on := 8, ground := Go.Ground.data }], guard := none }) (v := ?_) rfl (by kernel_rfl) (by kernel_rfl) (by kernel_rfl) (fun _ _ _ h => h) (Or.inl ⟨by rfl, ?_⟩) (by assumption) ?_
          rotate_left
          · (intro W hSw; (try dsimp only at hSw); first | (go_simp; done) | (go_simp; with_reducible rfl))
          try simp only [Act.put, List.setIfInBounds_toArray, List.set_cons_zero, List.set_cons_succ]
          refine wpAnyH_ready (rs := [2]) (by kernel_rfl) (by simp) ?_
          refine AllReadyH.cons (o := { dst := some 55, op := Go.Op.call { callee := Go.Callee.value (Go.Operand.func 44), args := #[Go.Operand.tmp 54], argTypes := #[3] }, type := 22, pos := "ref.go:54", after := #[{ on := 1, ground := Go.Ground.data }], guard := none }) rfl (fun K hK => ?_) AllReadyH.nil
          go_simp
          go_at_call 44
          refine (two_at en _ _ (by omega) (by omega)).mono ?_
          rintro e w5 ⟨⟨cp5, rfl, hr5⟩, b50⟩
          have b5 : Below wr.heap.size wr w5 := (Below.drew (Below.refl _ wr)).trans b50
          have hW5 := hW.out.later b5
          have hx5 := (b5.cell (p := ⟨sb0, so0 + j * 2, none⟩) hblt).trans hx1
          have hz5 := b5.size
          refine hK.out _ _ ?_ (fun hHeld => ?_)
          · ((try dsimp only); exact hx5)
          clear hK K
          try simp only [Act.put, List.setIfInBounds_toArray, List.set_cons_zero, List.set_cons_succ]
          refine wpAnyH_ready (rs := [3]) (by kernel_rfl) (by simp) ?_
          refine AllReadyH.cons (o := { dst := some 56, op := Go.Op.call { callee := Go.Callee.builtin Go.Builtin.append, args := #[Go.Operand.tmp 53, Go.Operand.tmp 55], argTypes := #[22, 22] }, type := 22, pos := "ref.go:54", after := #[{ on := 0, ground := Go.Ground.data }, { on := 2, ground := Go.Ground.data }, { on := 2, ground := Go.Ground.chain }], guard := none }) rfl (fun K hK => ?_) AllReadyH.nil
          refine step_append_lies _ rfl (.tmp 53) (.tmp 55) 22 rfl wc.heap.size 5 i0 (.int .u8 0) 1 1 Tryd.underlying22 hi hz0 hz1 hz2 rfl (by decide) _ _ _ rfl hW5.b _ 2 cp5 (bv (two en)) rfl (by simp [bv_length, two_len]) (cells_of_rd hr5 (by decide)) (bv_ones _) (by decide) (by unfold maxLen; omega) (by omega) hW5.le _ rfl ?_
          intro g6 cap6 w6 ho6 hgr6 hat6 hlt6
          have hW6 := hW5.appL ho6 hgr6 hat6
          have hx6 := (hW5.cell hgr6 hblc).trans hx5
          have hz6 := hgr6.size
          refine hK.out _ _ ?_ (fun hHeld => ?_)
          · ((try dsimp only); exact hx6)
          clear hK K
          try simp only [Act.put, List.setIfInBounds_toArray, List.set_cons_zero, List.set_cons_succ]
          refine wpAnyH_ready (rs := [10]) (by kernel_rfl) (by simp) ?_
          refine AllReadyH.cons (o := { dst := some 63, op := Go.Op.call { callee := Go.Callee.value (Go.Operand.func 44), args := #[Go.Operand.tmp 62], argTypes := #[3] }, type := 22, pos := "ref.go:54", after := #[{ on := 9, ground := Go.Ground.data }, { on := 3, ground := Go.Ground.chain }], guard := none }) rfl (fun K hK => ?_) AllReadyH.nil
          go_simp
          go_at_call 44
          refine (two_at cn _ _ (by omega) (by omega)).mono ?_
          rintro e w7 ⟨⟨cp7, rfl, hr7⟩, b7⟩
          have hW7 := hW6.later b7
          have hx7 := (b7.cell (p := ⟨sb0, so0 + j * 2, none⟩) (show sb0 < w6.heap.size by omega)).trans hx6
          have hz7 := b7.size
          refine hK.out _ _ ?_ (fun hHeld => ?_)
          · ((try dsimp only); exact hx7)
          clear hK K
          try simp only [Act.put, List.setIfInBounds_toArray, List.set_cons_zero, List.set_cons_succ]
          refine wpAnyH_ready (rs := [11]) (by kernel_rfl) (by simp) ?_
          refine AllReadyH.cons (o := { dst := some 64, op := Go.Op.call { callee := Go.Callee.builtin Go.Builtin.append, args := #[Go.Operand.tmp 56, Go.Operand.tmp 63], argTypes := #[22, 22] }, type := 22, pos := "ref.go:54", after := #[{ on := 3, ground := Go.Ground.data }, { on := 10, ground := Go.Ground.data }, { on := 10, ground := Go.Ground.chain }], guard := none }) rfl (fun K hK => ?_) AllReadyH.nil
          refine step_append_lies _ rfl (.tmp 56) (.tmp 63) 22 rfl wc.heap.size 5 i0 (.int .u8 0) 1 1 Tryd.underlying22 hi hz0 hz1 hz2 rfl (by decide) _ _ _ rfl hW7.b _ 2 cp7 (bv (two cn)) rfl (by simp [bv_length, two_len]) (cells_of_rd hr7 (by decide)) (bv_ones _) (by decide) (by unfold maxLen; simp [two_len]; omega) (by simp [two_len]; omega) hW7.le _ rfl ?_
          intro g8 cap8 w8 ho8 hgr8 hat8 hlt8
          have hW8 := hW7.appL ho8 hgr8 hat8
          have hx8 := (hW7.cell hgr8 hblc).trans hx7
          have hz8 := hgr8.size
          refine hK.out _ _ ?_ (fun hHeld => ?_)
          · ((try dsimp only); exact hx8)
          clear hK K
          try simp only [Act.put, List.setIfInBounds_toArray, List.set_cons_zero, List.set_cons_succ]
          refine wpAnyH_take (i := 12) (oi := { dst := some 3, op := Go.Op.assign (Go.Operand.tmp 64), type := 22, pos := "ref.go:54", after := #[{ on := 11, ground := Go.Ground.data }, { on := 11, ground := Go.Ground.chain }, { on := 0, ground := Go.Ground.phase }, { on := 1, ground := Go.Ground.phase }, { on := 2, ground := Go.Ground.phase }, { on := 3, ground := Go.Ground.phase }, { on := 4, ground := Go.Ground.phase }, { on := 5, ground := Go.Ground.phase }, { on := 6, ground := Go.Ground.phase }, { on := 7, ground := Go.Ground.phase }, { on := 8, ground := Go.Ground.phase }, { on := 9, ground := Go.Ground.phase }, { on := 10, ground := Go.Ground.phase }, { on := 11, ground := Go.Ground.phase }], guard := none }) (v := ?_) rfl (by kernel_rfl) (by kernel_rfl) (by kernel_rfl) (fun _ _ _ h => h) (Or.inl ⟨by rfl, ?_⟩) (by assumption) ?_
          rotate_left
          · (intro W hSw; (try dsimp only at hSw); first | (go_simp; done) | (go_simp; with_reducible rfl))
          try simp only [Act.put, List.setIfInBounds_toArray, List.set_cons_zero, List.set_cons_succ]
          refine wpAnyH_done (by kernel_rfl) ?_ _
          clear ho6 hgr6 hat6 hlt6 hr5 b5 b50 hr7 b7 hgr8 hat8 hlt8 ho8 hW5 hW6 hW7 hx5 hx6 hx7 hHeld hx1 h1 h2 hW hz5 hz6 hz7
          rw [List.length_append] at hW8
          have hrd8 := hrd.later (hW8.bel.alloc hW8.le (.cells #[] 5))
          have hRl : R.length ≤ 504 := hrl
          have hbl8 : sb0 < w8.heap.size := Nat.lt_of_lt_of_le hblc hW8.le
          have hbl8' : ¬ sb0 = w8.heap.size := Nat.ne_of_lt hbl8
          have hx8' : (w8.alloc (.cells #[] 5)).cell? ⟨sb0, so0 + j * 2, none⟩ = some (.slice cao cn ccap) := (((Below.refl _ w8).alloc (Nat.le_refl _) (.cells #[] 5)).cell (p := ⟨sb0, so0 + j * 2, none⟩) hbl8).trans hx8
          go_wp2_with (at_builtin; first
            | (refine wpList_append_lies2 rfl (.tmp 65) (.tmp 70) 22 22 rfl wc.heap.size 5 i0 (.int .u8 0) 1 1 Tryd.underlying22 hi hz0 hz1 hz2 rfl _ 0 [] rfl (own_made (base := wc.heap.size) w8 #[] 0 hW8.le (by decide) rfl) _ cn (bv b) rfl (src_of_rd Tryd.underlying22 hrd8) (by unfold maxLen; omega) (by omega) (by simp; exact Nat.le_succ_of_le hW8.le) ?_
               intro u2 w9 ho9 hgr9 hat9
               have hz9 := hgr9.size
               have hB9' : Below w8.heap.size w8 w9 := (((Below.refl _ w8).alloc (Nat.le_refl _) (.cells #[] 5))).grown hgr9 (by simp) (fun k hk => by cases hk; exact Nat.le_refl _)
               have hle9 : wc.heap.size ≤ w9.heap.size := Nat.le_trans hW8.le hB9'.size
               obtain ⟨ar9, cr9, e9, hR9, -⟩ := (hW8.r.later hB9').rd
               cases e9
               clear hB9' hrd8)
            | (refine wpList_append_lies2 rfl (.tmp 71) (.tmp 72) 22 22 rfl wc.heap.size 5 i0 (.int .u8 0) 1 1 Tryd.underlying22 hi hz0 hz1 hz2 rfl _ _ (bv b) rfl ho9 _ _ (bv R) rfl (src_of_rd Tryd.underlying22 hR9) (by unfold maxLen; omega) (by omega) hle9 ?_
               intro u3 w10 ho10 hgr10 hat10))
          have HW9 := hW8.recd hgr9 hat9 ho10 hgr10 hat10
          clear ho9 hgr9 hat9 ho10 hgr10 hat10 hz9 hle9 hR9 hW8 hz8 hx8
          go_wp2
          go_roundw
          case rel => exact ⟨_, _, j + 1, en, rfl, rfl, by omega, by go_num, rfl, HU, by rw [HT.out, HRT.out]; exact HW9⟩
          case measure => simp [intOf]; omega
      · obtain rfl : j = k := by omega
        have e1 : l2.take j = l2 := List.take_of_length_le (by rw [HL2.out]; exact Nat.le_refl _)
        rw [e1] at hW ha ⊢
        have hu := ha.out
        have hfl := HF2.out
        unfold fits at hfl
        rw [HL2.out] at hfl
        have hlB : (two j ++ heads 504 l2).length = 2 + 4 * j := by rw [List.length_append, two_len, heads_len, HL2.out]
        obtain ⟨z, rfl⟩ : ∃ z, a = 2 + 4 * j + z := ⟨a - (2 + 4 * j), by omega⟩
        have HBD : Hid (((two j ++ heads 504 l2) ++ List.replicate z 0) ++ recs l2 = bodyL l2) := by
          show _ = _
          unfold bodyL
          rw [HL2.out, show 502 - (4 * j + used l2) = z by omega]
          simp only [List.append_assoc]
        have hrl : (recs l2).length ≤ 504 := by rw [recs_len]; omega
        have hbl := bodyL_len l2 HF2.out
        have hz504 : 2 + 4 * j + z ≤ 504 := by omega
        generalize two j ++ heads 504 l2 = B at *
        generalize recs l2 = R at *
        obtain ⟨ab, cb, rfl, -, -⟩ := hW.out.b.rd
        have HLB : Hid (B.length = 2 + 4 * j) := hlB
        rw [hlB] at hW
        rw [hlB]
        clear hlB hc2 hr2 e1 hu hfl ha
        go_wp2_with (at_builtin; refine wpList_append_zeros2 rfl (.tmp 74) (.tmp 78) 22 3 rfl wc.heap.size 5 i0 .i64 .i64 Tryd.underlying22 Tryd.underlying3 hi hz0 hz1 hz2 _ _ _ rfl hW.out.b z (congrArg (Value.int .i64) (by omega)) (by rw [HLB.out]; unfold maxLen; omega) (by rw [HLB.out]; omega) hW.out.le ?_)
        intro v5 w5 ho5 hgr5 hat5
        have HW5 := hW.out.appB ho5 hgr5 hat5
        obtain ⟨ar5, cr5, e5, hR5, -⟩ := HW5.r.rd
        cases e5
        clear ho5 hgr5 hat5 hW
        go_wp2_with (at_builtin; refine wpList_append_lies2 rfl (.tmp 80) (.tmp 81) 22 22 rfl wc.heap.size 5 i0 (.int .u8 0) 1 1 Tryd.underlying22 hi hz0 hz1 hz2 rfl _ _ _ rfl HW5.b _ _ (bv R) rfl (src_of_rd Tryd.underlying22 hR5) (by rw [List.length_append, HLB.out, List.length_replicate]; unfold maxLen; omega) (by rw [List.length_append, HLB.out, List.length_replicate]; omega) HW5.le ?_)
        intro v6 w6 ho6 hgr6 hat6
        have HW6 := HW5.appB ho6 hgr6 hat6
        have hO6 := HW6.b
        have hB6 := HW6.bel
        rw [HBD.out] at hO6
        obtain ⟨a6, c6, rfl, hR6, -⟩ := hO6.rd
        have hs6 := hB6.size
        rw [hbl] at hR6 hO6 ⊢
        clear ho6 hgr6 hat6 HW5 HW6 hR5
        go_wp2_with fail
        refine (rsum_any a6 504 c6 (bodyL l2) _ hR6).mono ?_
        rintro e wq ⟨rfl, rfl⟩
        generalize hs : crc (bodyL l2) = s
        have HSUM : Hid (crc (bodyL l2) = s) := hs
        have HD2 : Hid (Own w6 wc.heap.size (.slice a6 504 c6) (bodyL l2)) := hO6
        have hbl2 : (bodyL l2).length ≤ 504 := by omega
        have HBL2 : Hid ((bodyL l2).length = 504) := hbl
        clear hs hR6 hO6 hbl
        go_wp2_with fail
        go_loopw [3, 8] (fun vr r wr => ∃ (v : Value) (i : Nat), v = vr ∧ i ≤ 8 ∧ r = .int .i64 (8 * (i : Int) - 8) ∧ Hid (Own wr wc.heap.size v (bodyL l2 ++ (eight s).take (8 - i))) ∧ Below wc.heap.size wc wr)
          (fun _ r _ => (intOf r + 8).toNat)
        case atStart => exact ⟨_, 8, rfl, by omega, rfl, by rw [show 8 - 8 = 0 from rfl, List.take_zero, List.append_nil]; exact HD2, hB6⟩
        case round =>
          obtain ⟨v, i, rfl, hi8, rfl, ho, hbl⟩ := hrel
          have hsz := hbl.size
          have hll : (bodyL l2 ++ (eight s).take (8 - i)).length ≤ 512 := by rw [List.length_append, HBL2.out]; simp [eight_length]; omega
          by_cases hc : 0 < i
          · have hc' : (0 : Int) ≤ 8 * (i : Int) - 8 := by omega
            go_wp2_with (at_builtin; refine wpList_append_own _ rfl _ _ 22 rfl wc.heap.size 5 i0 (.int .u8 0) 1 1 Tryd.underlying22 hi hz0 hz1 hz2 rfl (by decide) _ _ _ rfl (World.ownsRow.alloc ho.out _) ⟨wr.heap.size, 0, none⟩ 1 1 [.int .u8 ((s.toNat : Int) / 2 ^ (8 * i - 8) % 256)] rfl rfl (cell_one_new _ _ _) (one_cell _ _) (by unfold maxLen; omega) (by omega) (by simp; omega) ?_)
            intro v' w1 hown' hgrow _
            have hB : Below wc.heap.size wc w1 := ((hbl.alloc (by omega) _).grown hgrow (by simp; omega) (fun k hk => (World.ownsRow.lt ho.out k hk).1))
            rw [sumByte_is s i hc] at hown'
            have hO := own_push hown'
            rw [List.append_assoc, eight_take s i hc hi8] at hO
            clear hown' hgrow ho hbl hll
            go_wp2
            go_roundw
            case rel => exact ⟨_, i - 1, rfl, by omega, by go_num, by rw [show 8 - (i - 1) = 8 - i + 1 from by omega]; exact hO, hB⟩
            case measure => simp [intOf]; omega
          · have hc' : 8 * (i : Int) - 8 < 0 := by omega
            have hk0 : i = 0 := by omega
            subst hk0
            clear hll
            go_wp2
            go_ret
            refine ⟨_, l2, rfl, HS.out, ?_, hbl⟩
            unfold pageL
            rw [HSUM.out]
            simpa [eight] using ho.out
end Go.Proofs.YtaghbkjjindjfaaDoor
