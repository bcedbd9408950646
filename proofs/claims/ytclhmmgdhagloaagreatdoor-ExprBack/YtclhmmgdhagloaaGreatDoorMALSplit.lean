/-
  Lists of the document's nodes that come in; texts in them are no longer than what can be reached.
  The contract of lexer.Split: the tokens of any text.
-/
import Derived.Test.YtclhmmgdhagloaaGreatDoorMtVFrm3
import Derived.Test.YtclhmmgdhagloaaGreatDoorEDep
import Derived.Test.YtclhmmgdhagloaaGreatDoorLTok
import Derived.Deep.AppendLies
namespace Go.Proofs.YtclhmmgdhagloaaGreatDoor
open Go.ChangeShapes Go.WideShapes Go.ChangeAt Go.WideMaps Go.WideElems Go.RowKit Go.Shelf Go.Lib

theorem trod_struct5 {H : Type} {enc : TypeId × Value → H} {P : Program} {w : World} {base : Nat} {spare : Nat → Bool} {held : Bool} {t : TypeId} {f0 f1 f2 f3 f4 : Field} {fuel : Nat} {cs : List Value} {x : DataW H × List MemPlace} (ht : P.underlying t = some (.struct #[f0, f1, f2, f3, f4])) (h : DataW.trod enc P w base spare held fuel t cs = some x) :
    ∃ y0 y1 y2 y3 y4 n, x.1 = .agg [y0.1, y1.1, y2.1, y3.1, y4.1] ∧ cs.length = P.cellsOf t ∧ DataW.trod enc P w base spare held n f0.type ((cs.drop f0.offset).take (P.cellsOf f0.type)) = some y0 ∧
      DataW.trod enc P w base spare held n f1.type ((cs.drop f1.offset).take (P.cellsOf f1.type)) = some y1 ∧ DataW.trod enc P w base spare held n f2.type ((cs.drop f2.offset).take (P.cellsOf f2.type)) = some y2 ∧
      DataW.trod enc P w base spare held n f3.type ((cs.drop f3.offset).take (P.cellsOf f3.type)) = some y3 ∧ DataW.trod enc P w base spare held n f4.type ((cs.drop f4.offset).take (P.cellsOf f4.type)) = some y4 := by
  obtain ⟨xs, n, _, rfl, hl, hlen, hf⟩ := DataW.trod_struct ht h
  match xs, hlen with
  | [y0, y1, y2, y3, y4], _ => exact ⟨y0, y1, y2, y3, y4, n, by simp, hl, by simpa using hf 0 f0 rfl, by simpa using hf 1 f1 rfl, by simpa using hf 2 f2 rfl, by simpa using hf 3 f3 rfl, by simpa using hf 4 f4 rfl⟩

theorem list8 {cs : List Value} (h : cs.length = 8) : ∃ c0 c1 c2 c3 c4 c5 c6 c7, cs = [c0, c1, c2, c3, c4, c5, c6, c7] := by
  match cs, h with
  | [c0, c1, c2, c3, c4, c5, c6, c7], _ => exact ⟨c0, c1, c2, c3, c4, c5, c6, c7, rfl⟩

set_option maxRecDepth 100000 in
theorem nd_cells {H : Type} {enc : TypeId × Value → H} {W : World} {fuel : Nat} {cs : List Value} {x : DataW H × List MemPlace}
    (hf : DataW.trod enc Tryz.prog W 0 (fun _ => true) true fuel 67 cs = some x) :
    ∃ v : Nd, cs = (ncs v).toList ∧ vin v.v ∧ v.t.length ∈ x.1.weights Tryz.prog 67 ∧ v.n.length ∈ x.1.weights Tryz.prog 67 := by
  obtain ⟨y0, y1, y2, y3, y4, m, hx, hl, h0, h1, h2, h3, h4⟩ := trod_struct5 Tryz.underlying67 hf
  have hc : Tryz.prog.cellsOf 67 = 8 := by kernel_rfl
  rw [hc] at hl
  obtain ⟨c0, c1, c2, c3, c4, c5, c6, c7, rfl⟩ := list8 hl
  obtain ⟨a, ea, rfl, wa⟩ := DataW.trod_int Tryz.underlying3 h0
  obtain ⟨s, es, rfl, ws⟩ := DataW.trod_string Tryz.underlying9 h1
  obtain ⟨u, eu, rfl, wu⟩ := DataW.trod_string Tryz.underlying9 h2
  obtain ⟨v, ev, vi, _, _⟩ := val_cells h3
  obtain ⟨b, eb, rfl, wb⟩ := DataW.trod_int Tryz.underlying3 h4
  have c1' : Tryz.prog.cellsOf 3 = 1 := by kernel_rfl
  have c2' : Tryz.prog.cellsOf 9 = 1 := by kernel_rfl
  have c4' : Tryz.prog.cellsOf 42 = 4 := by kernel_rfl
  rw [c1'] at ea eb
  rw [c2'] at es eu
  rw [c4'] at ev
  simp at ea eb es eu ev
  obtain ⟨e1, e2, e3, e4⟩ := ev
  subst ea; subst eb; subst es; subst eu; subst e1; subst e2; subst e3; subst e4
  refine ⟨⟨a, s.data.toList, u.data.toList, v, b⟩, rfl, vi, ?_, ?_⟩
  all_goals rw [hx]
  all_goals simp [DataW.weights, Tryz.underlying67, DataW.weightsEach]

theorem cells8 {W : World} {a : Addr} {c0 c1 c2 c3 c4 c5 c6 c7 : Value} (h : W.cells? 0 a 8 = some [c0, c1, c2, c3, c4, c5, c6, c7]) : W.cell? (a.add 0) = some c0 ∧ W.cell? (a.add 1) = some c1 ∧ W.cell? (a.add 2) = some c2 ∧ W.cell? (a.add 3) = some c3 ∧ W.cell? (a.add 4) = some c4 ∧ W.cell? (a.add 5) = some c5 ∧ W.cell? (a.add 6) = some c6 ∧ W.cell? (a.add 7) = some c7 := by
  unfold World.cells? at h
  rw [if_pos (Nat.zero_le _)] at h
  have key : ∀ (l : List Nat) (r : List Value), l.mapM (fun j => W.cell? (a.add j)) = some r → ∀ (i j : Nat) (v : Value), l[i]? = some j → r[i]? = some v → W.cell? (a.add j) = some v := by
    intro l
    induction l with
    | nil => intro r _ i j v hi; simp at hi
    | cons x l ih =>
      intro r hr i j v hi hv
      simp only [List.mapM_cons] at hr
      cases hx : W.cell? (a.add x) with
      | none => simp [hx] at hr
      | some y =>
        simp only [hx, Option.bind_eq_bind, Option.bind_some] at hr
        cases hm : l.mapM (fun j => W.cell? (a.add j)) with
        | none => simp [hm] at hr
        | some q =>
          simp [hm] at hr
          subst hr
          cases i with
          | zero => simp at hi hv; subst hi; subst hv; exact hx
          | succ i => simp at hi hv; exact ih q hm i j v hi hv
  have k := key (List.range 8) _ h
  exact ⟨k 0 0 _ rfl rfl, k 1 1 _ rfl rfl, k 2 2 _ rfl rfl, k 3 3 _ rfl rfl, k 4 4 _ rfl rfl, k 5 5 _ rfl rfl, k 6 6 _ rfl rfl, k 7 7 _ rfl rfl⟩

theorem weights_all {H : Type} {P : Program} {e : TypeId} {n : Nat} : ∀ {l : List (DataW H)} {d : DataW H}, d ∈ l → n ∈ d.weights P e → n ∈ DataW.weightsAll P e l
  | a :: l, d, hd, hn => by
    simp only [DataW.weightsAll, List.mem_append]
    rcases List.mem_cons.1 hd with rfl | hd
    · exact .inl hn
    · exact .inr (weights_all hd hn)

theorem bytes88 : Tryz.prog.bytesOf 67 = 88 := by kernel_rfl

set_option maxRecDepth 100000 in
theorem nods_open {H : Type} {enc : TypeId × Value → H} {W : World} {a : Option Addr} {len cap fuel : Nat} {cs : List Value} {x : DataW H × List MemPlace}
    (hf : DataW.trod enc Tryz.prog W 0 (fun _ => true) true fuel 22 cs = some x) (hcs : cs = [.slice a len cap]) :
    ∃ l : List Nd, (Nw W a l ∧ l.length = len ∧ len ≤ cap ∧ (∀ v ∈ l, vin v.v) ∧ ∀ v ∈ l, v.t.length ∈ x.1.weights Tryz.prog 22 ∧ v.n.length ∈ x.1.weights Tryz.prog 22) ∧ (cap = 0 ∨ ∃ es sp, x.1 = .slice es sp ∧ es.length + sp.length = cap) := by
  subst hcs
  have hc8 : Tryz.prog.cellsOf 67 = 8 := by kernel_rfl
  rcases Go.Deep.open_slice Tryz.underlying22 hf with ⟨hcs, _⟩ | ⟨y, l, c, m, n, D, Pl, hcs, _, hl, hm, hmm, hx, hel⟩
  · simp at hcs
    obtain ⟨rfl, rfl, rfl⟩ := hcs
    exact ⟨[], ⟨fun h => by simp at h, rfl, Nat.le_refl _, (fun v h => by simp at h), fun v h => by simp at h⟩, .inl rfl⟩
  · simp at hcs
    obtain ⟨rfl, rfl, rfl⟩ := hcs
    have hmc : m = cap := by simpa using hmm
    rw [hc8] at hel
    have ex : ∀ i, i < len → ∃ v : Nd, W.cells? 0 (y.add (i * 8)) 8 = some (ncs v).toList ∧ vin v.v ∧ v.t.length ∈ (D i).weights Tryz.prog 67 ∧ v.n.length ∈ (D i).weights Tryz.prog 67 := by
      intro i hi
      obtain ⟨cs', h1, h2⟩ := hel i (by omega)
      obtain ⟨v, rfl, hv, hb, hb'⟩ := nd_cells h2
      exact ⟨v, h1, hv, hb, hb'⟩
    let f : Nat → Nd := fun i => if h : i < len then (ex i h).choose else ⟨0, [], [], ⟨0, 0, 0, []⟩, 0⟩
    have hf : ∀ i (h : i < len), W.cells? 0 (y.add (i * 8)) 8 = some (ncs (f i)).toList ∧ vin (f i).v ∧ (f i).t.length ∈ (D i).weights Tryz.prog 67 ∧ (f i).n.length ∈ (D i).weights Tryz.prog 67 := by
      intro i h
      have : f i = (ex i h).choose := dif_pos h
      rw [this]
      exact (ex i h).choose_spec
    have hw : ∀ i, i < len → ∀ k, k ∈ (D i).weights Tryz.prog 67 → k ∈ x.1.weights Tryz.prog 22 := by
      intro i hi k hk
      rw [hx]
      simp only [DataW.weights, Tryz.underlying22, List.mem_cons, List.mem_append]
      exact .inr (.inl (weights_all (d := D i) (List.mem_map.2 ⟨i, by simp; omega, rfl⟩) hk))
    refine ⟨(List.range len).map f, ⟨?_, by simp, by omega, ?_, ?_⟩, .inr ⟨_, _, by rw [hx], by simp; omega⟩⟩
    · intro hp
      simp only [List.length_map, List.length_range] at hp
      obtain ⟨b, off, spot⟩ := y
      have h0 := cells8 (hf 0 hp).1
      have hspot : spot = none := by simpa [Addr.add] using World.cell?_spot h0.1
      subst hspot
      refine ⟨b, off, rfl, fun i hi => ?_⟩
      simp only [List.length_map, List.length_range] at hi
      obtain ⟨g0, g1, g2, g3, g4, g5, g6, g7⟩ := cells8 (hf i hi).1
      simp only [Addr.add_lit] at g0 g1 g2 g3 g4 g5 g6 g7
      simp only [List.getElem_map, List.getElem_range]
      exact ⟨g0, g1, g2, g3, g4, g5, g6, g7⟩
    · intro v hv
      simp only [List.mem_map, List.mem_range] at hv
      obtain ⟨i, hi, rfl⟩ := hv
      exact (hf i hi).2.1
    · intro v hv
      simp only [List.mem_map, List.mem_range] at hv
      obtain ⟨i, hi, rfl⟩ := hv
      exact ⟨hw i hi _ (hf i hi).2.2.1, hw i hi _ (hf i hi).2.2.2⟩
end Go.Proofs.YtclhmmgdhagloaaGreatDoor

namespace Go.Proofs.YtclhmmgdhagloaaGreatDoor
open Go.RowKit Go.Shelf
attribute [local go_sem] cell?_more frozen?_more setCell_more more_lt more_more more_drew more_drewN setCell_drewN alloc_drewN

/-- Tokens' cells, one behind the other. -/
def tcells (x : List Tok) : List Value := x.flatMap fun t => (tcs t).toList
theorem tcells_snoc (x : List Tok) (t : Tok) : tcells (x ++ [t]) = tcells x ++ (tcs t).toList := by
  simp [tcells]
/-- Tokens that a call has made lie behind a slice. -/
abbrev Towns (w : World) (base : Nat) (v : Value) (x : List Tok) : Prop := w.ownsRow base 108 7 v x.length (tcells x)
theorem Towns.later {w w' : World} {base : Nat} {v : Value} {x : List Tok} (h : Towns w base v x) (hb : Below w.heap.size w w') : Towns w' base v x :=
  World.ownsRow.kept (row := none) h ⟨hb.os, hb.tape, hb.output, hb.size, fun k hk _ => hb.block k hk⟩ (by
    cases hv : v.ownBlock with
    | none => exact .inl rfl
    | some k => exact .inr (by simp))

theorem Cbox.grown {w w' : World} {p : Nat} {cs : Array Value} {ty : TypeId} {row : Option Nat} (h : Cbox w p cs ty) (hg : w.grownBy w' row) (hne : some p ≠ row) : Cbox w' p cs ty := by
  unfold Cbox
  rw [hg.block p h.lt hne]
  exact h

/-- What Split answers. -/
def splitP (R : Option (List Tok)) (base : Nat) (e : Ending) (w' : World) : Prop := match R with
  | none => e = .returned (.tuple #[.slice none 0 0, .int .i64 30])
  | some x => ∃ v, e = .returned (.tuple #[v, .int .i64 0]) ∧ Towns w' base v x

theorem news_tok (w : World) (o : Obj) (x : Tok) : ∀ j u, (tcs x).toList[j]? = some u → ((w.alloc o).alloc (.cells (tcs x) 108)).cell? ((⟨w.heap.size + 1, 0, none⟩ : Addr).add j) = some u := by
  have h := Cbox.new (w.alloc o) (tcs x) 108
  rw [World.size_alloc] at h
  exact World.news_of_block h
theorem one_tok (x : Tok) : ∀ u ∈ (tcs x).toList, u.oneCell' = true := by
  intro u hu
  simp at hu
  rcases hu with rfl | rfl | rfl | rfl | rfl | rfl | rfl <;> rfl
theorem Towns.push {w : World} {base n : Nat} {v : Value} {acc : List Tok} {x : Tok} (h : w.ownsRow base 108 7 v n (tcells acc ++ (tcs x).toList)) (hn : n = acc.length + 1) : Towns w base v (acc ++ [x]) := by
  unfold Towns
  rw [tcells_snoc, List.length_append]
  subst hn
  exact h

theorem infoTok : (Tryz.prog.info? 108).map (fun i => (i.zero, i.size, i.bytes)) = some (some (.agg #[.int .i64 0, .string ⟨#[]⟩, .int .i64 0, .int .i64 0, .int .i64 0, .string ⟨#[]⟩, .int .i64 0]), 7, 72) := by kernel_rfl

set_option maxRecDepth 20000 in
set_option maxHeartbeats 4000000 in
theorem split_any (l : List UInt8) (w : World) (hl : l.length ≤ 4096) (hT : Tabs w) (hP : Ptab w) :
    Calls Tryz.prog 42 #[.string ⟨l.toArray⟩] w fun e w' => splitP (lexL vz dpv l 0) w.heap.size e w' ∧ Below w.heap.size w w' := by
  have hsz : (ByteArray.mk l.toArray).size = l.length := rfl
  have hl' : ¬ (4096 : Int) < (l.length : Int) := by omega
  have PB : ∀ (k : Nat) W, k ≤ l.length → Calls Tryz.prog 71 #[.string ⟨l.toArray⟩, .int .i64 (k : Int)] W fun e w' => e = .returned (.int .i64 ((k + blankN (l.drop k) : Nat) : Int)) ∧ W = w' := fun k W h => pastBlanks_any l k W (by omega) h
  have TA : ∀ (k : Nat) W, k ≤ l.length → Below w.heap.size w W → _ := fun k W h hb => tokenAt_any l k W (by omega) h (hT.later hb) (hP.later hb)
  have PB0 := fun W => PB 0 W (by omega)
  clear hT hP
  obtain ⟨R, hR⟩ : ∃ R, R = lexL vz dpv l 0 := ⟨_, rfl⟩
  rw [← hR]
  have h0 : Hid (R = lexL vz dpv (l.drop (blankN l)) (blankN l)) := by
    show R = _
    rw [hR, lex_pass, Nat.zero_add]
  have hb0 := blankN_drop l
  have hle0 := blankN_le l
  generalize hB : ByteArray.mk l.toArray = B at *
  go_enter Tryz.func42, Tryz.ntmps42
  go_wp2_with (go_at_call 71; refine (PB0 _).mono ?_; rintro e w' ⟨rfl, rfl⟩)
  go_loopw [4, 5] (fun r4 r5 wr => ∃ (acc : List Tok) (k : Nat), r5 = .int .i64 (k : Int) ∧ k ≤ l.length ∧ acc.length ≤ k ∧ blankN (l.drop k) = 0 ∧ Towns wr w.heap.size r4 acc ∧ Below w.heap.size w wr ∧ Hid (R = (lexL vz dpv (l.drop k) k).map (acc ++ ·))) (fun _ r _ => l.length - (intOf r).toNat)
  case atStart =>
    refine ⟨[], blankN l, rfl, hle0, Nat.zero_le _, hb0, World.ownsRow_nil _ _ _ _, Below.refl _ _, ?_⟩
    show R = _
    rw [h0.out]
    cases lexL vz dpv (l.drop (blankN l)) (blankN l) <;> rfl
  case round =>
    obtain ⟨acc, k, rfl, hk, hak, hbk, ho, hb, hH⟩ := hrel
    have sB := hb.size
    by_cases hlt : k < l.length
    · have hlt' : (k : Int) < (l.length : Int) := by omega
      have hne : l.drop k ≠ [] := by
        intro h
        have := List.drop_eq_nil_iff.1 h
        omega
      have hhere := lex_here (z := vz) (f := dpv) (l.drop k) k hbk hne
      have TK := TA k wr hk hb
      cases ht : tok vz dpv (l.drop k) k with
      | none =>
        rw [ht] at TK hhere
        have hR' : Hid (R = none) := by
          show R = none
          rw [hH.out, hhere]; rfl
        clear hH hhere ht hne hR h0 ho PB PB0 TA
        go_wp2_with (go_at_call 72; refine TK.mono ?_; rintro e w1 ⟨⟨⟨xk, xt, xv, xa⟩, rfl⟩, b1⟩)
        refine bodyPost_ret_by (v := .tuple #[.slice none 0 0, .int .i64 30]) ?_ rfl ⟨?_, ?_⟩
        · simp [results, Tryz.results42, go_sem]
        · rw [hR'.out]; exact rfl
        · exact (hb.trans (b1.mono sB)).alloc (by have := b1.size; omega) _
      | some x =>
        rw [ht] at TK hhere
        obtain ⟨hxt, h2, h3, h4, h5⟩ := tok_len ht
        have h6 := lxt_le (l.drop k)
        rw [List.length_drop] at h6
        obtain ⟨xk, xt, xv, xa⟩ := x
        have e1 : ((k + xt.length : Nat) : Int) = (k : Int) + (xt.length : Int) := by omega
        have hkx : k + xt.length ≤ l.length := by simp at h2; omega
        have PBk : ∀ W, Calls Tryz.prog 71 #[.string B, .int .i64 ((k : Int) + (xt.length : Int))] W fun e w' => e = .returned (.int .i64 ((k + xt.length + blankN (l.drop (k + xt.length)) : Nat) : Int)) ∧ W = w' := fun W => by
          have := PB (k + xt.length) W hkx
          rwa [e1] at this
        have hstep : Hid (R = (lexL vz dpv (l.drop (k + xt.length + blankN (l.drop (k + xt.length)))) (k + xt.length + blankN (l.drop (k + xt.length)))).map ((acc ++ [⟨xk, xt, xv, xa⟩]) ++ ·)) := by
          show R = _
          rw [hH.out, hhere]
          simp only
          rw [List.drop_drop, lex_pass, List.drop_drop]
          cases lexL vz dpv (l.drop (k + xt.length + blankN (l.drop (k + xt.length)))) (k + xt.length + blankN (l.drop (k + xt.length))) <;> simp
        have hbn := blankN_drop (l.drop (k + xt.length))
        have hbl := blankN_le (l.drop (k + xt.length))
        rw [List.drop_drop] at hbn
        rw [List.length_drop] at hbl
        have hsx : (ByteArray.mk xt.toArray).size = xt.length := rfl
        have hx1 : 1 ≤ xt.length := by simp at h2; omega
        generalize hq : k + xt.length + blankN (l.drop (k + xt.length)) = q at *
        have hql : q ≤ l.length := by omega
        have hqk : k < q := by omega
        clear hH hhere ht hne hR h0 PB PB0 TA hxt h2 h3 h4 h5 h6 hbk hq hbl
        obtain ⟨i0, hi, hz0, hz1, hz2⟩ := info_parts infoTok
        go_wp2_with (first
          | (go_at_call 72; refine TK.mono ?_; rintro e w1 ⟨rfl, b1⟩; have s1 := b1.size; have hb1 : Below w.heap.size w w1 := hb.trans (b1.mono sB); have ho1 := ho.later b1; clear b1 ho TK)
          | (at_builtin; refine wpList_append_own _ rfl _ _ 76 rfl w.heap.size 108 i0 (.agg #[.int .i64 0, .string ⟨#[]⟩, .int .i64 0, .int .i64 0, .int .i64 0, .string ⟨#[]⟩, .int .i64 0]) 7 72 Tryz.underlying76 hi hz0 hz1 hz2 rfl (by decide) _ _ _ rfl (World.ownsRow.alloc (World.ownsRow.alloc ho1 _) _) ⟨w1.heap.size + 1, 0, none⟩ 1 1 (tcs ⟨xk, xt, xv, xa⟩).toList rfl rfl (news_tok w1 _ ⟨xk, xt, xv, xa⟩) (one_tok ⟨xk, xt, xv, xa⟩) (by unfold maxLen; omega) (by omega) (by simp; omega) ?_))
        intro v2 w2 hown2 hgrow2 _
        have hb2 : Below w.heap.size w w2 := (((hb1.alloc (by omega) _).alloc (by simp; omega) _).grown hgrow2 (by simp; omega) (fun k hk => (World.ownsRow.lt ho1 k hk).1))
        have ho2 := Towns.push (x := ⟨xk, xt, xv, xa⟩) hown2 rfl
        have hcb : Cbox ((w1.alloc (.cells (tcs ⟨xk, xt, xv, xa⟩) 108)).alloc (.cells (tcs ⟨xk, xt, xv, xa⟩) 108)) w1.heap.size (tcs ⟨xk, xt, xv, xa⟩) 108 := (Cbox.new w1 _ _).later ((Below.refl _ _).alloc (Nat.le_refl _) _)
        have hcb2 := hcb.grown hgrow2 (fun h => by have := (World.ownsRow.lt ho1 _ h.symm).2; omega)
        have c1 := hcb2.at 1
        have lt1 := hcb2.lt
        clear hcb hcb2 hown2 hgrow2 ho1 hb1 hb
        go_wp2_with (go_at_call 71; refine (PBk _).mono ?_; rintro e w' ⟨rfl, rfl⟩)
        exact ⟨⟨acc ++ [⟨xk, xt, xv, xa⟩], q, rfl, hql, by simp; omega, hbn, ho2, hb2, hstep⟩, by simp [intOf]; omega⟩
    · have hlt' : ¬ (k : Int) < (l.length : Int) := by omega
      have hk' : k = l.length := by omega
      have hR' : Hid (R = some acc) := by
        show R = _
        rw [hH.out, hk', List.drop_length, lex_nil]
        simp
      clear hH hR h0 PB PB0 TA
      go_wp2
      refine bodyPost_ret_by (v := .tuple #[u4, .int .i64 0]) ?_ rfl ⟨?_, hb⟩
      · simp [results, Tryz.results42, go_sem]
      · rw [hR'.out]; exact ⟨_, rfl, ho⟩

theorem split_big (B : ByteArray) (w : World) (hl : 4096 < B.size) :
    Calls Tryz.prog 42 #[.string B] w fun e w' => e = .returned (.tuple #[.slice none 0 0, .int .i64 6]) ∧ w = w' := by
  have hl' : (4096 : Int) < (B.size : Int) := by omega
  go_enter Tryz.func42, Tryz.ntmps42
  go_wp2
  refine bodyPost_ret_by (v := .tuple #[.slice none 0 0, .int .i64 6]) ?_ rfl ⟨rfl, rfl⟩
  simp [results, Tryz.results42, go_sem]
end Go.Proofs.YtclhmmgdhagloaaGreatDoor
