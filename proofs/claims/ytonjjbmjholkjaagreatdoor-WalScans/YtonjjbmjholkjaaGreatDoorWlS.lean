/-
  The contract of wal.Scan.
-/
import Derived.Test.YtonjjbmjholkjaaGreatDoorWlI
import Derived.Test.YtonjjbmjholkjaaGreatDoorDkA
import Derived.Deep.RegionWith
namespace Go.Proofs.YtonjjbmjholkjaaGreatDoor
open Go.RowKit Go.Shelf

attribute [local go_sem] Oper.semAt_some

theorem Tryz.info59 : (Tryz.prog.info? 59).map (fun i => (i.zero, i.size, i.bytes)) = some (some (.agg #[.int .i64 0, .slice none 0 0]), 2, 32) := by kernel_rfl

theorem boxed_later {w w' : World} {B : Nat} {t : TypeId} {v : Value} (h : Boxed w B t v) (hb : Below w.heap.size w w') : Boxed w' B t v := (hb.block B h.lt).trans h

theorem boxed_put {W : World} {B D : Nat} {t : TypeId} {v : Value} (h : Boxed W B t v) (hK : W.heap[D]? = some (.deferred (some []))) : Boxed (W.putObj D (.deferred none)) B t v :=
  h.kept (grownBy_putObj' W D _) (fun e => by cases e; rw [show W.heap[B]? = _ from h] at hK; cases hK)

theorem results_cells2 {P : Program} {fn : Func} {p q : Tmp} {t u : TypeId} (h : fn.results = #[.cell p t, .cell q u]) (tmps : Array Value) (w : World) (B1 B2 : Nat) (v1 v2 : Value)
    (hp : tmps.getD p undef = .pointer (some ⟨B1, 0, none⟩)) (hq : tmps.getD q undef = .pointer (some ⟨B2, 0, none⟩)) (h1 : (loadVar t ⟨B1, 0, none⟩).run P w = .ok v1 w) (h2 : (loadVar u ⟨B2, 0, none⟩).run P w = .ok v2 w) :
    (results fn tmps).run P w = .ok (.tuple #[v1, v2]) w := by
  have hp' : tmps[p]?.getD undef = .pointer (some ⟨B1, 0, none⟩) := by simpa using hp
  have hq' : tmps[q]?.getD undef = .pointer (some ⟨B2, 0, none⟩) := by simpa using hq
  simp [results, h, hp', hq', asAddr, h1, h2]

theorem own_turn {X Y : World} {row : Option Nat} {base : Nat} {v : Value} {bs : List UInt8} (h : Go.Proofs.YtonjjbmjholkjaaGreatDoor.Own X base v bs) (hg : X.grownBy Y row) (hr : ∀ r, row = some r → ∃ o : Obj, X.heap[r]? = some o ∧ o.isCells = false) : Go.Proofs.YtonjjbmjholkjaaGreatDoor.Own Y base v bs := by
  refine World.ownsRow.kept h hg ?_
  rcases h.2 with ⟨rfl, _⟩ | ⟨g, cap, cur, rfl, _, hgb, _⟩
  · exact .inl rfl
  · refine .inr fun e' => ?_
    obtain ⟨o, ho, hc⟩ := hr g (by simpa [Value.ownBlock] using e'.symm)
    rw [hgb] at ho; cases ho; cases hc

/-- Bytes of one's own lie as they lay where no block of bytes has changed. -/
theorem Own.chg {w w' : World} {base : Nat} {v : Value} {bs : List UInt8} (h : Go.Proofs.YtonjjbmjholkjaaGreatDoor.Own w base v bs) (hb : ∀ (k : Nat) (cs : Array Value), w.heap[k]? = some (.cells cs 5 (0, 0)) → w'.heap[k]? = w.heap[k]?) : Go.Proofs.YtonjjbmjholkjaaGreatDoor.Own w' base v bs := by
  obtain ⟨h1, h2⟩ := h
  refine ⟨h1, ?_⟩
  rcases h2 with hn | ⟨g, cap, cur, hv, hbg, hg, rest⟩
  · exact .inl hn
  · refine .inr ⟨g, cap, cur, hv, hbg, ?_, rest⟩
    rw [hb g _ hg, hg]

/-- The cells of entries, one behind the other. -/
def ecs (base : Int) (xs : List Itv) : List Value := xs.flatMap fun x => [.int .i64 (base + x.it.off), .slice x.ao x.it.inn.length x.cap]

theorem ecs_snoc (base : Int) (xs : List Itv) (x : Itv) : ecs base (xs ++ [x]) = ecs base xs ++ [.int .i64 (base + x.it.off), .slice x.ao x.it.inn.length x.cap] := by simp [ecs]

/-- What is in the records lies somewhere. -/
def Inn (w : World) (n₀ : Nat) (xs : List Itv) : Prop := ∀ x ∈ xs, Go.Proofs.YtonjjbmjholkjaaGreatDoor.Own w n₀ (.slice x.ao x.it.inn.length x.cap) x.it.inn

theorem Inn.chg {w w' : World} {n₀ : Nat} {xs : List Itv} (h : Inn w n₀ xs) (hb : ∀ (k : Nat) (cs : Array Value), w.heap[k]? = some (.cells cs 5 (0, 0)) → w'.heap[k]? = w.heap[k]?) : Inn w' n₀ xs := fun x hx => (h x hx).chg hb

theorem Inn.later {w w' : World} {n₀ : Nat} {xs : List Itv} (h : Inn w n₀ xs) (hb : Below w.heap.size w w') : Inn w' n₀ xs := h.chg (fun k _ e => hb.block k (Array.getElem?_eq_some_iff.1 e).1)

/-- An entry in a block of its own. -/
def Ex (W : World) (B : Nat) (base : Int) (x : Itv) : Prop := W.heap[B]? = some (.cells #[.int .i64 (base + x.it.off), .slice x.ao x.it.inn.length x.cap] 59 (0, 0))

theorem Ex.own (B : Nat) (base : Int) (x : Itv) : Go.Own (fun (_ : Unit) W => Ex W B base x) := fun s X Y row hs hg hrow =>
  (hg.block B (Array.getElem?_eq_some_iff.1 hs).1 (fun e' => by obtain ⟨o, ho, hc⟩ := hrow B e'.symm; rw [show X.heap[B]? = _ from hs] at ho; cases ho; cases hc)).trans hs

theorem row_type {W : World} {base size k : Nat} {e : TypeId} {v : Value} {xs : List Value} (h : W.ownsRow base e size v k xs) : ∀ r, v.ownBlock = some r → ∃ cs, W.heap[r]? = some (.cells cs e (0, 0)) := by
  intro r hr
  rcases h.2 with ⟨rfl, _⟩ | ⟨g, cap, cur, rfl, _, hgb, _⟩
  · cases hr
  · cases hr; exact ⟨_, hgb⟩

/-- The bytes stay where a block of another kind changes. -/
theorem Inn.grown {W W' : World} {n₀ : Nat} {xs : List Itv} {row : Option Nat} (h : Inn W n₀ xs) (hg : W.grownBy W' row) (hr : ∀ r, row = some r → ∃ cs t, W.heap[r]? = some (.cells cs t (0, 0)) ∧ t ≠ 5) : Inn W' n₀ xs :=
  h.chg (fun k cs e => hg.block k (Array.getElem?_eq_some_iff.1 e).1 (fun e' => by
    obtain ⟨c, t, h1, h2⟩ := hr k e'.symm
    rw [h1] at e
    cases e
    exact h2 rfl))

theorem two_new (W : World) (x y : Value) (t : TypeId) : ∀ j u, [x, y][j]? = some u → (W.alloc (.cells #[x, y] t)).cell? ((⟨W.heap.size, 0, none⟩ : Addr).add j) = some u := by
  intro j u hj
  match j, hj with
  | 0, hj => simp at hj; subst hj; simp [Addr.add]
  | 1, hj => simp at hj; subst hj; simp [Addr.add]

theorem load_ents (w : World) (B : Nat) (v : Value) (h : w.cell? ⟨B, 0, none⟩ = some v) : (loadVar 25 ⟨B, 0, none⟩).run Tryz.prog w = .ok v w := by
  simp [loadVar, h, go_sem]

theorem load_int (w : World) (B : Nat) (v : Value) (h : w.cell? ⟨B, 0, none⟩ = some v) : (loadVar 3 ⟨B, 0, none⟩).run Tryz.prog w = .ok v w := by
  simp [loadVar, h, go_sem]

theorem recL_len : ∀ (f off : Nat) (bs : List UInt8), (recL f off bs).length ≤ f := by
  intro f
  induction f with
  | zero => intro off bs; simp [recL]
  | succ f ih =>
    intro off bs
    simp only [recL]
    split
    · simp only [List.length_cons]; have := ih (off + (takeR bs).2.1) (bs.drop (takeR bs).2.1); omega
    · simp

theorem rcs_len (off : Nat) (bs : List UInt8) : (rcs off bs).length ≤ bs.length + 1 := recL_len _ _ _

set_option maxRecDepth 100000 in
set_option maxHeartbeats 4000000 in
theorem scan_any (base : Int) (ao : Option Addr) (m cap : Nat) (bs : List UInt8) (w : World) (hT : Tab w) (hR : Rd w ao m cap bs) (b1 : -4611686018427387904 ≤ base) (b2 : base ≤ 4611686018427387904) (hm : m ≤ 16777216) :
    Calls Tryz.prog 7 #[.int .i64 base, .slice ao m cap] w fun e w' => ∃ (xs : List Itv) (v : Value), e = .returned (.tuple #[v, .int .i64 (base + endL 0 (rcs 0 bs))]) ∧ xs.map Itv.it = rcs 0 bs ∧
      w'.ownsRow w.heap.size 59 2 v xs.length (ecs base xs) ∧ Inn w' w.heap.size xs ∧ Below w.heap.size w w' := by
  obtain ⟨i0, hi, hz0, hz1, hz2⟩ := info_parts Tryz.info59
  have hml := hR.1
  refine (callsIn_wide (n := 6)).1 ?_
  refine callsIn_of_wp_marks Tryz.func7 rfl trivial ?_ rfl
  simp only [Tryz.ntmps7, List.size_toArray, List.length_cons, List.length_nil, Nat.reduceAdd, Nat.reduceSub, Array.replicate_succ, Array.replicate_zero, List.push_toArray, List.append_toArray, List.nil_append, List.cons_append]
  gi_wp2_with fail
  refine ⟨trivial, (callsIn_wide.2 (records_any base _ ⟨_, _, _, rfl⟩ _)).mono ?_⟩
  rintro e w' ⟨rfl, rfl⟩
  gi_wp2_with fail
  have bL := (((Boxed.new w 25 (.slice none 0 0)).alloc (.cells #[.int .i64 base] 3)).alloc (.cells #[.int .i64 base] 3)).alloc (.cells #[.slice ao m cap] 22)
  have bE := ((Boxed.new (w.alloc (.cells #[.slice none 0 0] 25)) 3 (.int .i64 base)).alloc (.cells #[.int .i64 base] 3)).alloc (.cells #[.slice ao m cap] 22)
  have bB := (Boxed.new ((w.alloc (.cells #[.slice none 0 0] 25)).alloc (.cells #[.int .i64 base] 3)) 3 (.int .i64 base)).alloc (.cells #[.slice ao m cap] 22)
  have bS := Boxed.new (((w.alloc (.cells #[.slice none 0 0] 25)).alloc (.cells #[.int .i64 base] 3)).alloc (.cells #[.int .i64 base] 3)) 22 (.slice ao m cap)
  simp only [World.size_alloc] at bE bB bS
  have hB0 : Below w.heap.size w ((((w.alloc (.cells #[.slice none 0 0] 25)).alloc (.cells #[.int .i64 base] 3)).alloc (.cells #[.int .i64 base] 3)).alloc (.cells #[.slice ao m cap] 22)) :=
    ((((Below.refl _ w).alloc (Nat.le_refl _) _).alloc (by simp) _).alloc (by simp; omega) _).alloc (by simp; omega) _
  have hsz : ((((w.alloc (.cells #[.slice none 0 0] 25)).alloc (.cells #[.int .i64 base] 3)).alloc (.cells #[.int .i64 base] 3)).alloc (.cells #[.slice ao m cap] 22)).heap.size = w.heap.size + 4 := by simp
  obtain ⟨W0, hW0⟩ : ∃ W0, (((w.alloc (.cells #[.slice none 0 0] 25)).alloc (.cells #[.int .i64 base] 3)).alloc (.cells #[.int .i64 base] 3)).alloc (.cells #[.slice ao m cap] 22) = W0 := ⟨_, rfl⟩
  rw [hW0] at bL bE bB bS hB0 hsz ⊢
  clear hW0
  have hKlt : ∀ k, Kr ao m k → k < w.heap.size := fun k hk => Kr.lt hT hR hk
  refine range_lend (α := Itv) rfl (by omega) (gf := 38) (lb := #[.pointer (some ⟨w.heap.size + 1 + 1, 0, none⟩), .pointer (some ⟨w.heap.size + 1 + 1 + 1, 0, none⟩)]) rfl trivial (enters_of Tryz.func38 (by kernel_rfl) rfl)
    (encs := encR base) (fun _ => rfl) (Kp := Kq (Kr ao m)) Kq.trans (fun W l o o' hl h1 h2 h3 => Kq.put (n₀ := W0.heap.size) (fun k hk => by have := hKlt k hk; omega) W l o o' hl h1 h2 h3)
    (records1_lends 5 (by omega) (w.heap.size + 1 + 1) (w.heap.size + 1 + 1 + 1) base ao m cap bs W0 (hT.later hB0 hT.pos) bB.cell bS.cell (hR.later hB0) b1 b2 (by omega))
    (fun pre W => ((((∃ v, Boxed W w.heap.size 25 v ∧ W.ownsRow w.heap.size 59 2 v pre.length (ecs base pre) ∧ True) ∧ Boxed W (w.heap.size + 1) 3 (.int .i64 (base + endL 0 (pre.map Itv.it)))) ∧ Below w.heap.size w W) ∧ Inn W w.heap.size pre) ∧ pre.map Itv.it <+: rcs 0 bs)
    (OwnFrom.and (OwnFrom.and (OwnFrom.and (OwnFrom.and (Own.from (holdsRow_own w.heap.size w.heap.size 25 59 2 (fun (pre : List Itv) => pre.length) (fun pre => ecs base pre) (fun _ _ => True)) _)
      (Own.from (boxed_own _ _ (fun (pre : List Itv) => Value.int .i64 (base + endL 0 (pre.map Itv.it)))) _)) (ownFrom_below (Nat.le_refl _) (by omega))) (fun s X Y row hs hg hr x hx => own_turn (hs x hx) hg (fun r e => (hr r e).2))) (ownFrom_pure _ _))
    ⟨⟨⟨⟨⟨_, bL, World.ownsRow_nil _ _ _ _, trivial⟩, by simpa [endL] using bE⟩, hB0⟩, fun x hx => by simp at hx⟩, List.nil_prefix⟩
    (fun pre x a' W => ∃ Bx, w.heap.size + 1 < Bx ∧ Ex W Bx base x ∧ Go.Proofs.YtonjjbmjholkjaaGreatDoor.Own W w.heap.size (.slice x.ao x.it.inn.length x.cap) x.it.inn ∧ (pre.map Itv.it ++ [x.it]) <+: rcs 0 bs ∧
      a' = { tmps := #[.int .i64 base, .slice ao m cap, undef, undef, .pointer (some ⟨w.heap.size, 0, none⟩), .pointer (some ⟨w.heap.size + 1, 0, none⟩), .pointer (some ⟨Bx, 0, none⟩), .int .i64 (base + x.it.fin), .int .i64 base, .int .i64 base, .slice ao m cap, .func (.func 38) #[] #[.pointer (some ⟨w.heap.size + 1 + 1, 0, none⟩), .pointer (some ⟨w.heap.size + 1 + 1 + 1, 0, none⟩)], .agg #[.int .i64 (base + x.it.off), .slice x.ao x.it.inn.length x.cap], .int .i64 (base + x.it.fin), undef, undef, undef, undef, undef, undef, undef], defers := [] })
    (fun pre x a' _ X Y row hs hg hr => by obtain ⟨Bx, h1, h2, h3, h4, h5⟩ := hs; exact ⟨Bx, h1, Ex.own Bx base x () X Y row h2 hg (fun r e => (hr r e).2), own_turn h3 hg (fun r e => (hr r e).2), h4, h5⟩)
    ?assign ?body ?done
  case assign =>
    rintro l pre ⟨⟨xo, xi, xf⟩, xa, xc⟩ V0 V1 K hle hI0 ⟨⟨⟨⟨⟨v, hv, hrow, _⟩, bE1⟩, hB1⟩, hin⟩, hpre⟩ hbel ⟨hown, hpx⟩ hK
    simp only [encR]
    gi_wp2
    have bA : Below V1.heap.size V1 (V1.alloc (.cells #[.int .i64 (base + xo), .slice xa xi.length xc] 59)) := (Below.refl _ _).alloc (Nat.le_refl _) _
    exact hK _ _ ((KeepsOthers.alloc _ _).from _) (Kq.of bA (fun k hk => by have := hKlt k hk; have := hB1.size; omega)) ⟨⟨⟨⟨⟨v, hv.alloc _, hrow.alloc _, trivial⟩, bE1.alloc _⟩, hB1.alloc hB1.size _⟩, hin.later bA⟩, hpre⟩
      ⟨V1.heap.size, bE1.lt, World.alloc_heap_new V1 _, (hown.later bA).more (by have := hB0.size; omega), hpx, rfl⟩
  case body =>
    rintro l pre ⟨⟨xo, xi, xf⟩, xa, xc⟩ a' W hl ⟨⟨⟨⟨⟨v, hv, hrow, _⟩, bE1⟩, hB1⟩, hin⟩, hpre⟩ ⟨Bx, hBx, bX, hown, hpx, rfl⟩
    have hc := hv.cell
    have c0 : W.cell? ⟨Bx, 0, none⟩ = some (.int .i64 (base + xo)) := by simp [World.cell?, show W.heap[Bx]? = _ from bX]
    have c1 : W.cell? ⟨Bx, 1, none⟩ = some (.slice xa xi.length xc) := by simp [World.cell?, show W.heap[Bx]? = _ from bX]
    have hlen : pre.length + 1 ≤ 16777217 := by
      have h1 := hpx.length_le
      have h2 := rcs_len 0 bs
      simp at h1
      omega
    dsimp only
    gi_wp2_with (gi_at_builtin; refine wpListIn_append_own _ rfl _ _ 25 rfl w.heap.size 59 i0 (.agg #[.int .i64 0, .slice none 0 0]) 2 32 Tryz.underlying25 hi hz0 hz1 hz2 rfl (by decide) _ _ _ rfl (hrow.alloc _) ⟨W.heap.size, 0, none⟩ 1 1 [.int .i64 (base + xo), .slice xa xi.length xc] rfl rfl (two_new _ _ _ _) (by simp [Value.oneCell']) (by unfold maxLen; omega) (by omega) (by have := hB1.size; simp; omega) ?_; intro v' w1 hown' hgrow _; obtain ⟨g', cap', rfl⟩ := ownsRow_succ hown'; obtain ⟨hv1, hv2, hr2, hk2, hb2⟩ := hv.appended (by decide) hrow hB1.size (Nat.le_refl _) hown' hgrow; have bE2 := ((bE1.alloc _).kept hgrow (bE1.not_row (by decide) hrow)).other (show w.heap.size + 1 ≠ w.heap.size by omega) (.slice (some ⟨g', 0, none⟩) (pre.length + 1) cap'); have hc1 := hv1.cell; have hf1 := hv1.frozen; have hf2 := bE2.frozen; have hc2 := bE2.cell)
    have bW : Below W.heap.size W (W.alloc (.cells #[.int .i64 (base + xo), .slice xa xi.length xc] 59)) := (Below.refl _ _).alloc (Nat.le_refl _) _
    have hinx : Inn W w.heap.size (pre ++ [⟨⟨xo, xi, xf⟩, xa, xc⟩]) := by
      intro y hy
      rcases List.mem_append.1 hy with h | h
      · exact hin y h
      · rw [List.mem_singleton] at h; subst h; exact hown
    have hin1 := (hinx.later bW).grown hgrow (fun r e => by obtain ⟨cs, h⟩ := row_type (hrow.alloc _) r e; exact ⟨cs, _, h, by decide⟩)
    have hin2 := hin1.grown (grownBy_setCell' w1 w.heap.size (.slice (some ⟨g', 0, none⟩) (pre.length + 1) cap')) (fun r e => by cases e; exact ⟨_, _, hv1, by decide⟩)
    have hin3 := hin2.grown (grownBy_setCell' _ (w.heap.size + 1) (.int .i64 (base + xf))) (fun r e => by cases e; exact ⟨_, _, bE2, by decide⟩)
    have hbb := hb2.setCell (p := ⟨w.heap.size + 1, 0, none⟩) (by simp) (.int .i64 (base + xf))
    refine ⟨rfl, (hk2.trans (KeepsOthers.setCell _ _ _)).from _, Kq.of hbb hKlt, ⟨⟨⟨⟨_, hv2.other (by omega) _, ?_⟩, ?_⟩, hB1.trans hbb⟩, hin3⟩, ?_⟩
    · rw [ecs_snoc, List.length_append]
      exact hr2.kept (grownBy_setCell' _ _ _) (.inr (bE2.not_row (by decide) hr2).symm)
    · rw [List.map_append, List.map_cons, List.map_nil, endL_snoc]
      exact bE2.set _
    · rw [List.map_append]; exact hpx
  case done =>
    rintro D xs W hD hS ⟨⟨⟨⟨⟨v, hv, hrow, _⟩, bE1⟩, hB1⟩, hin⟩, hpre⟩ hK
    obtain ⟨x1, x2, x3, rfl⟩ : ∃ x1 x2 x3, v = .slice x1 x2 x3 := by
      rcases hrow.2 with ⟨rfl, _⟩ | ⟨g, cap, cur, rfl, _⟩
      · exact ⟨_, _, _, rfl⟩
      · exact ⟨_, _, _, rfl⟩
    have hc := hv.cell
    have hf := hv.frozen
    have d1 := bE1.cell
    have f1 := bE1.frozen
    have hFIN : ∃ W5, W5 = ((W.setCell ⟨w.heap.size, 0, none⟩ (.slice x1 x2 x3)).setCell ⟨w.heap.size + 1, 0, none⟩ (.int .i64 (base + (endL 0 (rcs 0 bs) : Nat)))).drew ∧ Boxed W5 w.heap.size 25 (.slice x1 x2 x3) ∧ Boxed W5 (w.heap.size + 1) 3 (.int .i64 (base + (endL 0 (rcs 0 bs) : Nat))) ∧
        W5.ownsRow w.heap.size 59 2 (.slice x1 x2 x3) xs.length (ecs base xs) ∧ Inn W5 w.heap.size xs ∧ Below w.heap.size w W5 ∧ W5.heap[D]? = some (.deferred (some [])) := by
      rw [← hS]
      have a1 := hv.set (.slice x1 x2 x3)
      have a2 := bE1.other (show w.heap.size + 1 ≠ w.heap.size by omega) (.slice x1 x2 x3)
      have a3 := hrow.kept (grownBy_setCell' W w.heap.size (.slice x1 x2 x3)) (.inr (hv.not_row (by decide) hrow).symm)
      have a4 := hin.grown (grownBy_setCell' W w.heap.size (.slice x1 x2 x3)) (fun r e => by cases e; exact ⟨_, _, hv, by decide⟩)
      have a5 := a3.kept (grownBy_setCell' (W.setCell ⟨w.heap.size, 0, none⟩ (.slice x1 x2 x3)) (w.heap.size + 1) (.int .i64 (base + (endL 0 (xs.map Itv.it) : Nat)))) (.inr (a2.not_row (by decide) a3).symm)
      have a6 := a4.grown (grownBy_setCell' (W.setCell ⟨w.heap.size, 0, none⟩ (.slice x1 x2 x3)) (w.heap.size + 1) (.int .i64 (base + (endL 0 (xs.map Itv.it) : Nat)))) (fun r e => by cases e; exact ⟨_, _, a2, by decide⟩)
      refine ⟨_, rfl, a1.other (by omega) _, a2.set _, a5, a6, ?_, ?_⟩
      · exact ((hB1.setCell (p := ⟨w.heap.size, 0, none⟩) (Nat.le_refl _) _).setCell (p := ⟨w.heap.size + 1, 0, none⟩) (by simp) _).drew
      · exact (KeepsOthers.setCell _ _ _).same D _ ((KeepsOthers.setCell _ _ _).same D _ hK rfl) rfl
    obtain ⟨W5, hW5, e1, e2, e3, e4, e5, e6⟩ := hFIN
    have HS : Hid (xs.map Itv.it = rcs 0 bs) := hS
    have HF : Hid (Boxed W5 w.heap.size 25 (.slice x1 x2 x3) ∧ Boxed W5 (w.heap.size + 1) 3 (.int .i64 (base + (endL 0 (rcs 0 bs) : Nat))) ∧
        W5.ownsRow w.heap.size 59 2 (.slice x1 x2 x3) xs.length (ecs base xs) ∧ Inn W5 w.heap.size xs ∧ Below w.heap.size w W5 ∧ W5.heap[D]? = some (.deferred (some []))) := ⟨e1, e2, e3, e4, e5, e6⟩
    rw [hS] at d1
    clear e1 e2 e3 e4 e5 e6 hS hK hrow hin hpre hB1
    gi_wp2_with fail
    refine wpIn_wide.2 ?_
    refine wp_region_noPanic ?_
    go_region_with (fail)
    all_goals
      refine NoPanic.normal ?_
      rw [← hW5]
      clear hW5
      obtain ⟨e1, e2, e3, e4, e5, e6⟩ := HF.out
      gi_wp2
      refine ⟨by simp, .inl ⟨_, _, rfl, run_takeDeferred e6, ?_⟩⟩
      refine ⟨_, results_cells2 rfl _ _ w.heap.size (w.heap.size + 1) (.slice x1 x2 x3) (.int .i64 (base + (endL 0 (rcs 0 bs) : Nat))) rfl rfl (load_ents _ _ _ ?_) (load_int _ _ _ ?_), xs, .slice x1 x2 x3, rfl, HS.out, ownsRow_putObj e3 _ e6 rfl, ?_, ?_⟩
      · exact (boxed_put e1 e6).cell
      · exact (boxed_put e2 e6).cell
      · exact fun x hx => ownsRow_putObj (e4 x hx) _ e6 rfl
      · exact e5.trans (belowK_b (w := w) (Nat.le_refl _) W5 D _ _ (by omega) e6 rfl rfl)
end Go.Proofs.YtonjjbmjholkjaaGreatDoor
