/-
  The contract of expr.Depth, over contracts of operands and mayBe.
-/
import Derived.Test.YtclhmmgdhagloaaGreatDoorMuLVal
import Derived.Test.YtclhmmgdhagloaaGreatDoorLTok
import Derived.Deep.RegionWith
namespace Go.Proofs.YtclhmmgdhagloaaGreatDoor
open Go.RowKit
attribute [local go_sem] cell?_more frozen?_more setCell_more more_lt more_more more_drew more_drewN setCell_drewN alloc_drewN

/-- A node lies in eight cells of a block. -/
def N8 (w : World) (b o : Nat) (x : Nd) : Prop :=
  w.cell? ⟨b, o, none⟩ = some (.int .i64 x.o) ∧ w.cell? ⟨b, o + 1, none⟩ = some (.string ⟨x.t.toArray⟩) ∧ w.cell? ⟨b, o + 2, none⟩ = some (.string ⟨x.n.toArray⟩) ∧ w.cell? ⟨b, o + 3, none⟩ = some (.int .i64 x.v.k) ∧ w.cell? ⟨b, o + 4, none⟩ = some (.int .i64 x.v.n) ∧
    w.cell? ⟨b, o + 5, none⟩ = some (.int .i64 x.v.m) ∧ w.cell? ⟨b, o + 6, none⟩ = some (.string ⟨x.v.b.toArray⟩) ∧ w.cell? ⟨b, o + 7, none⟩ = some (.int .i64 x.a)
theorem N8.lt {w : World} {b o : Nat} {x : Nd} (h : N8 w b o x) : b < w.heap.size := World.block_lt_of_cell? w _ h.1
theorem N8.later {w w' : World} {b o : Nat} {x : Nd} (h : N8 w b o x) (hb : Below w.heap.size w w') : N8 w' b o x := by
  have hl := h.lt
  obtain ⟨h0, h1, h2, h3, h4, h5, h6, h7⟩ := h
  exact ⟨(hb.cell (p := ⟨b, o, none⟩) hl).trans h0, (hb.cell (p := ⟨b, o + 1, none⟩) hl).trans h1, (hb.cell (p := ⟨b, o + 2, none⟩) hl).trans h2, (hb.cell (p := ⟨b, o + 3, none⟩) hl).trans h3, (hb.cell (p := ⟨b, o + 4, none⟩) hl).trans h4, (hb.cell (p := ⟨b, o + 5, none⟩) hl).trans h5, (hb.cell (p := ⟨b, o + 6, none⟩) hl).trans h6, (hb.cell (p := ⟨b, o + 7, none⟩) hl).trans h7⟩
/-- A row of nodes lies behind an address. -/
def Nw (w : World) (ao : Option Addr) (l : List Nd) : Prop :=
  0 < l.length → ∃ b off, ao = some ⟨b, off, none⟩ ∧ ∀ i (h : i < l.length), N8 w b (off + i * 8) l[i]
theorem Nw.later {w w' : World} {ao : Option Addr} {l : List Nd} (h : Nw w ao l) (hb : Below w.heap.size w w') : Nw w' ao l := by
  intro hp
  obtain ⟨b, off, e, hc⟩ := h hp
  exact ⟨b, off, e, fun i hi => (hc i hi).later hb⟩

/-- The deepest, and one more. -/
def maxD (ds : List Nat) : Nat := ds.foldl (fun m d => max m (d + 1)) 1
/-- One step of the stack of depths. -/
def stepD (may : Nd → Bool) (st : List Nat) (x : Nd) : Option (List Nat) :=
  if may x = true ∧ opsN x ≤ (st.length : Int) then some (st.take (st.length - (opsN x).toNat) ++ [maxD (st.drop (st.length - (opsN x).toNat))]) else none
def runD (may : Nd → Bool) : List Nd → List Nat → Option (List Nat)
  | [], st => some st
  | x :: l, st => match stepD may st x with | none => none | some st' => runD may l st'
def depO (r : Option (List Nat)) : Nat := match r with | some [d] => if d ≤ 16 then d else 0 | _ => 0
def depN (may : Nd → Bool) (l : List Nd) : Nat := if l.length ≤ 256 then depO (runD may l []) else 0

def iv (ds : List Nat) : List Value := ds.map fun (d : Nat) => .int .i64 (d : Int)
theorem iv_len (ds : List Nat) : (iv ds).length = ds.length := by simp [iv]
/-- A stack of numbers of one's own. -/
abbrev Ks (w : World) (base : Nat) (v : Value) (ds : List Nat) : Prop := w.ownsRow base 3 1 v ds.length (iv ds)
theorem Ks.shape {w : World} {base : Nat} {v : Value} {ds : List Nat} (h : Ks w base v ds) :
    ∃ ao cap, v = .slice ao ds.length cap ∧ ds.length ≤ cap ∧ (ao = none → ds = [] ∧ cap = 0) ∧ (∀ f, f ≤ ds.length → Ks w base (.slice ao f cap) (ds.take f)) ∧ (∀ a, ao = some a → ∃ g, a = ⟨g, 0, none⟩ ∧ base ≤ g ∧ g < w.heap.size ∧ ∀ i (h : i < ds.length), w.cell? ⟨g, i, none⟩ = some (.int .i64 (ds[i] : Int))) := by
  obtain ⟨h1, h2⟩ := h
  rcases h2 with ⟨rfl, hn⟩ | ⟨g, cap, cur, rfl, hb, hg, hnc, hcm, hcs, htake⟩
  · have : ds = [] := List.length_eq_zero_iff.1 hn
    subst this
    exact ⟨none, 0, rfl, Nat.le_refl _, fun _ => ⟨rfl, rfl⟩, fun f hf => by simp at hf; subst hf; exact World.ownsRow_nil _ _ _ _, fun a ha => by cases ha⟩
  · refine ⟨some ⟨g, 0, none⟩, cap, rfl, hnc, (fun h => by cases h), fun f hf => ?_, fun a ha => ?_⟩
    · have e : (ds.take f).length = f := by rw [List.length_take]; omega
      show w.ownsRow base _ 1 _ (ds.take f).length _
      rw [e]
      refine ⟨by rw [iv_len, e, Nat.mul_one], .inr ⟨g, cap, cur, rfl, hb, hg, by omega, hcm, hcs, ?_⟩⟩
      rw [Nat.mul_one] at htake ⊢
      have : cur.toList.take f = (cur.toList.take ds.length).take f := by rw [List.take_take, Nat.min_eq_left hf]
      rw [this, htake]
      simp [iv, List.map_take]
    · cases ha
      have hlt : g < w.heap.size := by
        rcases Nat.lt_or_ge g w.heap.size with h | h
        · exact h
        · rw [Array.getElem?_eq_none h] at hg; cases hg
      refine ⟨g, rfl, hb, hlt, fun i hi => ?_⟩
      have hc := cell_of_row w g i cur _ (0, 0) hg
      rw [hc]
      have h3 : cur[i]? = (cur.toList.take (ds.length * 1))[i]? := by
        rw [List.getElem?_take, if_pos (by omega)]; simp
      rw [h3, htake]
      simp [iv, hi]

theorem maxD_le_aux (ds : List Nat) (k : Nat) (h : ∀ d ∈ ds, d ≤ k) : ∀ m, m ≤ k + 1 → ds.foldl (fun m d => max m (d + 1)) m ≤ k + 1 := by
  induction ds with
  | nil => intro m hm; exact hm
  | cons d ds ih =>
    intro m hm
    have := h d (by simp)
    exact ih (fun x hx => h x (by simp [hx])) _ (Nat.max_le.2 ⟨hm, by omega⟩)
theorem maxD_le (ds : List Nat) (k : Nat) (h : ∀ d ∈ ds, d ≤ k) : maxD ds ≤ k + 1 := maxD_le_aux ds k h 1 (by omega)
theorem Ks.push' {w : World} {base n d : Nat} {v : Value} {ds : List Nat} (hl : ds.length = n) (h : w.ownsRow base 3 1 v (n + 1) (iv ds ++ [.int .i64 (d : Int)])) : Ks w base v (ds ++ [d]) := by
  subst hl
  show w.ownsRow _ _ _ _ (ds ++ [d]).length (iv (ds ++ [d]))
  have e1 : (ds ++ [d]).length = ds.length + 1 := by simp
  have e2 : iv (ds ++ [d]) = iv ds ++ [.int .i64 (d : Int)] := by simp [iv]
  rw [e1, e2]
  exact h
theorem Ks.push {w : World} {base d : Nat} {v : Value} {ds : List Nat} (h : w.ownsRow base 3 1 v (ds.length + 1) (iv ds ++ [.int .i64 (d : Int)])) : Ks w base v (ds ++ [d]) := Ks.push' rfl h
theorem infoInt : (Tryz.prog.info? 3).map (fun i => (i.zero, i.size, i.bytes)) = some (some (.int .i64 0), 1, 8) := by kernel_rfl
theorem cst1 (k : Nat) : (k : Int) + 1 = ((k + 1 : Nat) : Int) := by omega

theorem Ks.later {w w' : World} {base : Nat} {v : Value} {ds : List Nat} (h : Ks w base v ds) (hb : Below w.heap.size w w') : Ks w' base v ds :=
  World.ownsRow.kept (row := none) h ⟨hb.os, hb.tape, hb.output, hb.size, fun k hk _ => hb.block k hk⟩ (by
    cases hv : v.ownBlock with
    | none => exact .inl rfl
    | some k => exact .inr (by simp))

set_option maxRecDepth 20000 in
set_option maxHeartbeats 4000000 in
theorem depth_any (may : Nd → Bool) (ao : Option Addr) (cap : Nat) (l : List Nd) (w : World) (hv : Nw w ao l) (hn : l.length ≤ 140737488351232)
    (hops : ∀ x, may x = true → 0 ≤ opsN x ∧ opsN x ≤ 4)
    (M : ∀ x ∈ l, ∀ W, Below w.heap.size w W → Calls Tryz.prog 36 #[ndv x] W fun e w' => e = .returned (.bool (may x)) ∧ Below W.heap.size W w') :
    Calls Tryz.prog 11 #[.slice ao l.length cap] w fun e w' => e = .returned (.int .i64 (depN may l : Int)) ∧ Below w.heap.size w w' := by
  obtain ⟨i0, hi, hz0, hz1, hz2⟩ := info_parts infoInt
  have O := fun x W => operands_any x W
  by_cases hl : l.length ≤ 256
  case neg =>
    have hl' : (256 : Int) < (l.length : Int) := by omega
    unfold depN
    rw [if_neg hl]
    go_enter Tryz.func11, Tryz.ntmps11
    go_wp2
    go_ret
    exact ⟨rfl, Below.refl _ _⟩
  have hl' : ¬ (256 : Int) < (l.length : Int) := by omega
  unfold depN
  rw [if_pos hl]
  obtain ⟨R, hR⟩ : ∃ R, R = runD may l [] := ⟨_, rfl⟩
  rw [← hR]
  have HR : Hid (R = runD may (l.drop 0) []) := hR
  clear hR
  obtain ⟨n, hnn⟩ : ∃ n, l.length = n := ⟨_, rfl⟩
  rw [hnn] at hn hl hl' ⊢
  have HN : Hid (l.length = n) := hnn
  clear hnn
  go_enter Tryz.func11, Tryz.ntmps11
  go_wp2
  go_loopw [3, 15] (fun r3 r15 wr => ∃ (k : Nat) (st : List Nat), r15 = .int .i64 (k : Int) ∧ k ≤ n ∧ st.length ≤ k ∧ (∀ d ∈ st, d ≤ k) ∧ Ks wr w.heap.size r3 st ∧ Below w.heap.size w wr ∧ Hid (R = runD may (l.drop k) st)) (fun _ r _ => n - (intOf r).toNat)
  case atStart => exact ⟨0, [], rfl, Nat.zero_le _, Nat.zero_le _, (fun d h => by cases h), World.ownsRow_nil _ _ _ _, Below.refl _ _, HR⟩
  case round =>
    obtain ⟨k, st, rfl, hk, hst, hsd, ho, hb, hH⟩ := hrel
    have sB := hb.size
    obtain ⟨so, sc, rfl, hsc, hsn, hcut, hcell⟩ := ho.shape
    by_cases hlt : k < n
    · have hlt' : (k : Int) < (n : Int) := by omega
      have hkl : k < l.length := by rw [HN.out]; exact hlt
      obtain ⟨b, off, rfl, hc⟩ := hv (by omega)
      obtain ⟨c0, c1, c2, c3, c4, c5, c6, c7⟩ := ((hc k (by omega)).later hb)
      have hg := (hc k (by omega)).lt
      have hg' : b < wr.heap.size := by omega
      have hdr : l.drop k = l[k] :: l.drop (k + 1) := List.drop_eq_getElem_cons hkl
      obtain ⟨x, he⟩ : ∃ x : Nd, x = l[k] := ⟨_, rfl⟩
      rw [← he] at c0 c1 c2 c3 c4 c5 c6 c7 hdr
      have Ox := fun W => O x W
      have Mx := fun W h => M x (by rw [he]; exact List.getElem_mem _) W h
      have hox := hops x
      have HH : Hid (R = match stepD may st x with | none => none | some st' => runD may (l.drop (k + 1)) st') := by
        show R = _
        rw [hH.out, hdr]; rfl
      clear hc he O M hops hH HR hdr
      obtain ⟨m, hm⟩ : ∃ m, may x = m := ⟨_, rfl⟩
      rw [hm] at Mx hox
      have hlen : ((st.length : Nat) : Int) ≤ 256 := by omega
      cases m with
      | false =>
        have HF : Hid (depO R = 0) := by
          show depO R = 0
          rw [HH.out]
          unfold stepD
          rw [hm, if_neg (by simp)]
          rfl
        clear HH hm hox hcut hcell ho hsn
        obtain ⟨xo, xt, xn, xv, xa⟩ := x
        have A1 : Below w.heap.size w (wr.alloc (.cells (ncs ⟨xo, xt, xn, xv, xa⟩) 44)) := hb.alloc sB _
        go_wp2_with (first
          | (go_at_call 35; refine (Ox _).mono ?_; rintro e w1 ⟨rfl, g1⟩; have b1 := g1.below; have Z := (Cbox.new wr (ncs ⟨xo, xt, xn, xv, xa⟩) 44).later b1; have z0 := Z.at 0; have z1 := Z.at 1; have z2 := Z.at 2; have z3 := Z.at 3; have z4 := Z.at 4; have z5 := Z.at 5; have z6 := Z.at 6; have z7 := Z.at 7; have zl := Z.lt; have B1 : Below w.heap.size w w1 := A1.trans (b1.mono A1.size); clear g1 Z)
          | (go_at_call 36; refine (Mx _ B1).mono ?_; rintro e w2 ⟨rfl, b2⟩; have B2 := below_trans B1 b2))
        go_ret
        exact ⟨by rw [HF.out]; rfl, B2⟩
      | true =>
        obtain ⟨ho0, ho4⟩ := hox rfl
        obtain ⟨q, hq⟩ : ∃ q : Nat, opsN x = (q : Int) := ⟨(opsN x).toNat, by omega⟩
        rw [hq] at Ox ho4
        by_cases hqs : q ≤ st.length
        case neg =>
          have HF : Hid (depO R = 0) := by
            show depO R = 0
            rw [HH.out]
            unfold stepD
            rw [hq, if_neg (by intro h; omega)]
            rfl
          have hfr : (st.length : Int) - (q : Int) < 0 := by omega
          clear HH hm hq hox hcut hcell ho hsn ho0
          obtain ⟨xo, xt, xn, xv, xa⟩ := x
          have A1 : Below w.heap.size w (wr.alloc (.cells (ncs ⟨xo, xt, xn, xv, xa⟩) 44)) := hb.alloc sB _
          go_wp2_with (first
            | (go_at_call 35; refine (Ox _).mono ?_; rintro e w1 ⟨rfl, g1⟩; have b1 := g1.below; have Z := (Cbox.new wr (ncs ⟨xo, xt, xn, xv, xa⟩) 44).later b1; have z0 := Z.at 0; have z1 := Z.at 1; have z2 := Z.at 2; have z3 := Z.at 3; have z4 := Z.at 4; have z5 := Z.at 5; have z6 := Z.at 6; have z7 := Z.at 7; have zl := Z.lt; have B1 : Below w.heap.size w w1 := A1.trans (b1.mono A1.size); clear g1 Z)
            | (go_at_call 36; refine (Mx _ B1).mono ?_; rintro e w2 ⟨rfl, b2⟩; have B2 := below_trans B1 b2))
          go_ret
          exact ⟨by rw [HF.out]; rfl, B2⟩
        · obtain ⟨f, hf⟩ : ∃ f : Nat, f = st.length - q := ⟨_, rfl⟩
          have hfr : (st.length : Int) - (q : Int) = (f : Int) := by omega
          have hfl : f ≤ st.length := by omega
          have hf0 : ¬ ((f : Nat) : Int) < 0 := by omega
          have HS : Hid (R = runD may (l.drop (k + 1)) (st.take f ++ [maxD (st.drop f)])) := by
            show R = _
            rw [HH.out]
            unfold stepD
            rw [hm, hq, if_pos ⟨rfl, by omega⟩, Int.toNat_natCast, ← hf]
          clear HH hm hq hox hf ho0
          have hmax := maxD_le (st.drop f) k (fun d hd => hsd d (List.mem_of_mem_drop hd))
          have hsl : Hid (st.length = f + q) := by show st.length = f + q; omega
          by_cases hq0 : q = 0
          · subst hq0
            have hfe : f = st.length := by omega
            subst hfe
            have HS2 : Hid (R = runD may (l.drop (k + 1)) (st ++ [1])) := by
              show R = _
              rw [HS.out, List.take_length, List.drop_length]; rfl
            clear hfr HS hsl hmax hfl hqs
            obtain ⟨xo, xt, xn, xv, xa⟩ := x
            have A1 : Below w.heap.size w (wr.alloc (.cells (ncs ⟨xo, xt, xn, xv, xa⟩) 44)) := hb.alloc sB _
            go_wp2_with (first
              | (go_at_call 35; refine (Ox _).mono ?_; rintro e w1 ⟨rfl, g1⟩; have b1 := g1.below; have Z := (Cbox.new wr (ncs ⟨xo, xt, xn, xv, xa⟩) 44).later b1; have z0 := Z.at 0; have z1 := Z.at 1; have z2 := Z.at 2; have z3 := Z.at 3; have z4 := Z.at 4; have z5 := Z.at 5; have z6 := Z.at 6; have z7 := Z.at 7; have zl := Z.lt; have B1 : Below w.heap.size w w1 := A1.trans (b1.mono A1.size); clear g1 Z)
              | (go_at_call 36; refine (Mx _ B1).mono ?_; rintro e w2 ⟨rfl, b2⟩; have B2 := below_trans B1 b2))
            · (
              try subst h
              have B12 : Below wr.heap.size wr w2 := below_trans (below_trans ((Below.refl _ wr).alloc (Nat.le_refl _) _) b1) b2
              have s2 := B2.size
              have ho2 : Hid (Ks w2 w.heap.size (.slice so st.length st.length) (st.take st.length)) := Ks.later (hcut st.length (Nat.le_refl _)) B12
              clear hcut hsn
              go_loopw [7, 35] (fun r7 r35 wi => r7 = .int .i64 1 ∧ r35 = .int .i64 0 ∧ w2 = wi) (fun _ _ _ => 0)
              case atStart => exact ⟨rfl, rfl, rfl⟩
              case round =>
                obtain ⟨rfl, rfl, rfl⟩ := hrel
                have hlk : (st.take st.length).length = st.length := by rw [List.length_take]; omega
                have ho3 : w2.ownsRow w.heap.size 3 1 (.slice so st.length st.length) st.length (iv (st.take st.length)) := by have := ho2.out; unfold Ks at this; rw [hlk] at this; exact this
                have HLK : Hid ((st.take st.length).length = st.length) := hlk
                have hrow : Hid (∀ g, (Value.slice so st.length st.length).ownBlock = some g → w.heap.size ≤ g) := fun g h => (World.ownsRow.lt ho3 g h).1
                clear hlk ho2 hcell ho
                go_wp2_with (at_builtin; refine wpList_append_own _ rfl _ _ 68 rfl w.heap.size 3 i0 (.int .i64 0) 1 8 Tryz.underlying68 hi hz0 hz1 hz2 rfl (by decide) _ _ _ rfl (World.ownsRow.alloc ho3 _) ⟨w2.heap.size, 0, none⟩ 1 1 [.int .i64 (1 : Int)] rfl rfl (cell_one_new _ _ _) (one_cell _ _) (by unfold maxLen; omega) (by omega) (by simp; omega) ?_)
                intro v3 w3 ho4 hgrow3 _
                have B3 : Below w.heap.size w w3 := (B2.alloc (by omega) _).grown hgrow3 (by simp; omega) hrow.out
                clear hgrow3 ho3
                go_wp2
                refine ⟨⟨k + 1, st ++ [1], by rw [cst1], by omega, by simp; omega, ?_, Ks.push ho4, B3, HS2⟩, by simp [intOf]; omega⟩
                intro d hd
                rcases List.mem_append.1 hd with hd | hd
                · exact Nat.le_succ_of_le (hsd d hd)
                · simp at hd; omega)
            · (
              have B12 : Below wr.heap.size wr w2 := below_trans (below_trans ((Below.refl _ wr).alloc (Nat.le_refl _) _) b1) b2
              have s2 := B2.size
              have ho2 : Hid (Ks w2 w.heap.size (.slice so st.length sc) (st.take st.length)) := Ks.later (hcut st.length (Nat.le_refl _)) B12
              clear hcut hsn
              go_loopw [7, 35] (fun r7 r35 wi => r7 = .int .i64 1 ∧ r35 = .int .i64 0 ∧ w2 = wi) (fun _ _ _ => 0)
              case atStart => exact ⟨rfl, rfl, rfl⟩
              case round =>
                obtain ⟨rfl, rfl, rfl⟩ := hrel
                have hlk : (st.take st.length).length = st.length := by rw [List.length_take]; omega
                have ho3 : w2.ownsRow w.heap.size 3 1 (.slice so st.length sc) st.length (iv (st.take st.length)) := by have := ho2.out; unfold Ks at this; rw [hlk] at this; exact this
                have HLK : Hid ((st.take st.length).length = st.length) := hlk
                have hrow : Hid (∀ g, (Value.slice so st.length sc).ownBlock = some g → w.heap.size ≤ g) := fun g h => (World.ownsRow.lt ho3 g h).1
                clear hlk ho2 hcell ho
                go_wp2_with (at_builtin; refine wpList_append_own _ rfl _ _ 68 rfl w.heap.size 3 i0 (.int .i64 0) 1 8 Tryz.underlying68 hi hz0 hz1 hz2 rfl (by decide) _ _ _ rfl (World.ownsRow.alloc ho3 _) ⟨w2.heap.size, 0, none⟩ 1 1 [.int .i64 (1 : Int)] rfl rfl (cell_one_new _ _ _) (one_cell _ _) (by unfold maxLen; omega) (by omega) (by simp; omega) ?_)
                intro v3 w3 ho4 hgrow3 _
                have B3 : Below w.heap.size w w3 := (B2.alloc (by omega) _).grown hgrow3 (by simp; omega) hrow.out
                clear hgrow3 ho3
                go_wp2
                refine ⟨⟨k + 1, st ++ [1], by rw [cst1], by omega, by simp; omega, ?_, Ks.push ho4, B3, HS2⟩, by simp [intOf]; omega⟩
                intro d hd
                rcases List.mem_append.1 hd with hd | hd
                · exact Nat.le_succ_of_le (hsd d hd)
                · simp at hd; omega)
          · have hne : ¬ sc = f := by omega
            have hso : so ≠ none := by intro h; have := (hsn h).1; subst this; simp at hqs; omega
            obtain ⟨ad, rfl⟩ := Option.ne_none_iff_exists'.1 hso
            obtain ⟨g, rfl, hgb, hgl, hcl⟩ := hcell ad rfl
            clear hcell hso hsn
            have hf3 : (st.length : Int) - (f : Int) = (q : Int) := by omega
            have hf4 : st.length - f = q := by omega
            have hf5 : ((st.length - f : Nat) : Int) = (q : Int) := by omega
            obtain ⟨xo, xt, xn, xv, xa⟩ := x
            have A1 : Below w.heap.size w (wr.alloc (.cells (ncs ⟨xo, xt, xn, xv, xa⟩) 44)) := hb.alloc sB _
            go_wp2_with (first
              | (go_at_call 35; refine (Ox _).mono ?_; rintro e w1 ⟨rfl, g1⟩; have b1 := g1.below; have Z := (Cbox.new wr (ncs ⟨xo, xt, xn, xv, xa⟩) 44).later b1; have z0 := Z.at 0; have z1 := Z.at 1; have z2 := Z.at 2; have z3 := Z.at 3; have z4 := Z.at 4; have z5 := Z.at 5; have z6 := Z.at 6; have z7 := Z.at 7; have zl := Z.lt; have B1 : Below w.heap.size w w1 := A1.trans (b1.mono A1.size); clear g1 Z)
              | (go_at_call 36; refine (Mx _ B1).mono ?_; rintro e w2 ⟨rfl, b2⟩; have B2 := below_trans B1 b2))
            have B12 : Below wr.heap.size wr w2 := below_trans (below_trans ((Below.refl _ wr).alloc (Nat.le_refl _) _) b1) b2
            have s2 := B2.size
            have hg2 : g < w2.heap.size := Nat.lt_of_lt_of_le hgl B12.size
            have ho2 : Hid (Ks w2 w.heap.size (.slice (some ⟨g, 0, none⟩) f sc) (st.take f)) := Ks.later (hcut f hfl) B12
            have HC : Hid (∀ i (h : i < st.length), w2.cell? ⟨g, i, none⟩ = some (.int .i64 (st[i] : Int))) := fun i h => (B12.cell (p := ⟨g, i, none⟩) hgl).trans (hcl i h)
            clear hcut hcl ho
            go_loopw [7, 35] (fun r7 r35 wi => ∃ i : Nat, r35 = .int .i64 (i : Int) ∧ r7 = .int .i64 ((maxD ((st.drop f).take i) : Nat) : Int) ∧ i ≤ q ∧ w2 = wi) (fun _ r _ => q - (intOf r).toNat)
            case atStart => exact ⟨0, rfl, rfl, Nat.zero_le _, rfl⟩
            case round =>
              obtain ⟨i, rfl, rfl, hiq, rfl⟩ := hrel
              by_cases hi2 : i < q
              · have hi' : (i : Int) < (q : Int) := by omega
                have i0' : (0 : Int) ≤ (i : Int) := by omega
                have hc1 := HC.out (f + i) (by omega)
                have hstep : maxD ((st.drop f).take (i + 1)) = max (maxD ((st.drop f).take i)) (st[f + i]'(by omega) + 1) := by
                  rw [List.take_succ_eq_append_getElem (by rw [List.length_drop]; omega)]
                  unfold maxD
                  rw [List.foldl_append, List.getElem_drop]
                  rfl
                have hle := hsd (st[f + i]'(by omega)) (List.getElem_mem _)
                have hle2 := maxD_le ((st.drop f).take i) k (fun d hd => hsd d (List.mem_of_mem_drop (List.mem_of_mem_take hd)))
                generalize st[f + i]'(by omega) = e at hc1 hstep hle
                have HST : Hid (((maxD ((st.drop f).take (i + 1)) : Nat) : Int) = max ((maxD ((st.drop f).take i) : Nat) : Int) ((e : Int) + 1)) := by
                  show _ = _
                  rw [hstep]; omega
                clear hstep
                generalize maxD ((st.drop f).take i) = d at *
                go_wp2
                exact ⟨⟨i + 1, by rw [cst1], by rw [HST.out], by omega, by trivial⟩, by simp [intOf]; omega⟩
              · have hi' : ¬ (i : Int) < (q : Int) := by omega
                have hieq : i = q := by omega
                have HE : Hid (maxD ((st.drop f).take i) = maxD (st.drop f)) := by
                  show _ = _
                  rw [List.take_of_length_le (by rw [List.length_drop]; omega)]
                have hle2 := hmax
                obtain ⟨D, hD⟩ : ∃ D, D = maxD (st.drop f) := ⟨_, rfl⟩
                rw [HE.out]
                rw [← hD] at HS hle2 ⊢
                clear hD HE hmax HC
                have hlk : (st.take f).length = f := by rw [List.length_take]; omega
                have ho3 : w2.ownsRow w.heap.size 3 1 (.slice (some ⟨g, 0, none⟩) f sc) f (iv (st.take f)) := by have := ho2.out; unfold Ks at this; rw [hlk] at this; exact this
                have HLK : Hid ((st.take f).length = f) := hlk
                have hrow : Hid (∀ q, (Value.slice (some ⟨g, 0, none⟩) f sc).ownBlock = some q → w.heap.size ≤ q) := fun q h => (World.ownsRow.lt ho3 q h).1
                clear hlk ho2
                go_wp2_with (at_builtin; refine wpList_append_own _ rfl _ _ 68 rfl w.heap.size 3 i0 (.int .i64 0) 1 8 Tryz.underlying68 hi hz0 hz1 hz2 rfl (by decide) _ _ _ rfl (World.ownsRow.alloc ho3 _) ⟨w2.heap.size, 0, none⟩ 1 1 [.int .i64 (D : Int)] rfl rfl (cell_one_new _ _ _) (one_cell _ _) (by unfold maxLen; omega) (by omega) (by simp; omega) ?_)
                intro v3 w3 ho4 hgrow3 _
                have B3 : Below w.heap.size w w3 := (B2.alloc (by omega) _).grown hgrow3 (by simp; omega) hrow.out
                clear hgrow3 ho3
                go_wp2
                refine ⟨⟨k + 1, st.take f ++ [D], by rw [cst1], by omega, by rw [List.length_append, HLK.out]; simp; omega, ?_, Ks.push' HLK.out ho4, B3, HS⟩, by simp [intOf]; omega⟩
                intro d hd
                rcases List.mem_append.1 hd with hd | hd
                · exact Nat.le_succ_of_le (hsd d (List.mem_of_mem_take hd))
                · simp at hd; omega
    · have hlt' : ¬ (k : Int) < (n : Int) := by omega
      have hkn : k = n := by omega
      have HF : Hid (R = some st) := by
        show R = _
        rw [hH.out, List.drop_eq_nil_of_le (by rw [HN.out]; omega)]; rfl
      clear hH HR
      by_cases h1 : st.length = 1
      · obtain ⟨d, rfl⟩ := List.length_eq_one_iff.1 h1
        have hso : so ≠ none := by intro h; have := (hsn h).1; simp at this
        obtain ⟨ad, rfl⟩ := Option.ne_none_iff_exists'.1 hso
        obtain ⟨g, rfl, hgb, hgl, hcl⟩ := hcell ad rfl
        have hc0 := hcl 0 (by simp)
        simp only [List.getElem_cons_zero] at hc0
        have hsc1 : (0 : Int) < ((1 : Nat) : Int) := by omega
        clear hcut hcell hsn ho hcl hsd
        simp only [List.length_cons, List.length_nil, Nat.zero_add]
        by_cases hd : d ≤ 16
        · have hd' : ¬ (16 : Int) < (d : Int) := by omega
          have HF2 : Hid (depO R = d) := by
            show depO R = d
            rw [HF.out]; unfold depO; simp [hd]
          go_wp2
          go_ret
          exact ⟨by rw [HF2.out]; rfl, hb⟩
        · have hd' : (16 : Int) < (d : Int) := by omega
          have HF2 : Hid (depO R = 0) := by
            show depO R = 0
            rw [HF.out]; unfold depO; simp [hd]
          go_wp2
          go_ret
          exact ⟨by rw [HF2.out]; rfl, hb⟩
      · have h1' : ((st.length : Int) == 1) = false := by rw [beq_eq_false_iff_ne]; omega
        have HF2 : Hid (depO R = 0) := by
          show depO R = 0
          rw [HF.out]
          match st, h1 with
          | [], _ => rfl
          | [d], h => simp at h
          | a :: b :: c, _ => rfl
        clear hcut hcell hsn ho hsd HF
        generalize st.length = m at *
        go_wp2
        go_ret
        exact ⟨by rw [HF2.out]; rfl, hb⟩
end Go.Proofs.YtclhmmgdhagloaaGreatDoor
