/-
  Lists of the document's nodes that come in; texts in them are no longer than what can be reached.
  The contract of lexer.Split: the tokens of any text.
  The contracts of lexer.Word and lexer.Right; tokens of whatever parts.
-/
import Derived.Test.YtclhmmgdhagloaaGreatDoorMtVFrm3
import Derived.Test.YtclhmmgdhagloaaGreatDoorEDep
import Derived.Test.YtclhmmgdhagloaaGreatDoorLTok
import Derived.Deep.AppendLies
import Derived.BigRegion
namespace Go.Proofs.YtclhmmgdhagloaaGreatDoor
open Go.ChangeShapes Go.WideShapes Go.ChangeAt Go.WideMaps Go.WideElems Go.RowKit Go.Shelf Go.Lib

end Go.Proofs.YtclhmmgdhagloaaGreatDoor

namespace Go.Proofs.YtclhmmgdhagloaaGreatDoor
open Go.RowKit Go.Shelf
attribute [local go_sem] cell?_more frozen?_more setCell_more more_lt more_more more_drew more_drewN setCell_drewN alloc_drewN

/-- Tokens' cells, one behind the other. -/
def tcells (x : List Tok) : List Value := x.flatMap fun t => (tcs t).toList
theorem tcells_snoc (x : List Tok) (t : Tok) : tcells (x ++ [t]) = tcells x ++ (tcs t).toList := by
  simp [tcells]
/-- Tokens that a call has made lie behind a slice. -/
abbrev Towns (w : World) (base : Nat) (v : Value) (x : List Tok) : Prop := w.ownsRow base 108 7 v x.length (tcells x)
theorem Towns.later {w w' : World} {base : Nat} {v : Value} {x : List Tok} (h : Towns w base v x) (hb : Below w.heap.size w w') : Towns w' base v x :=
  World.ownsRow.kept (row := none) h ⟨hb.os, hb.tape, hb.output, hb.size, fun k hk _ => hb.block k hk⟩ (by
    cases hv : v.ownBlock with
    | none => exact .inl rfl
    | some k => exact .inr (by simp))

theorem Cbox.grown {w w' : World} {p : Nat} {cs : Array Value} {ty : TypeId} {row : Option Nat} (h : Cbox w p cs ty) (hg : w.grownBy w' row) (hne : some p ≠ row) : Cbox w' p cs ty := by
  unfold Cbox
  rw [hg.block p h.lt hne]
  exact h

/-- What Split answers. -/
def splitP (R : Option (List Tok)) (base : Nat) (e : Ending) (w' : World) : Prop := match R with
  | none => e = .returned (.tuple #[.slice none 0 0, .int .i64 30])
  | some x => ∃ v, e = .returned (.tuple #[v, .int .i64 0]) ∧ Towns w' base v x

theorem news_tok (w : World) (o : Obj) (x : Tok) : ∀ j u, (tcs x).toList[j]? = some u → ((w.alloc o).alloc (.cells (tcs x) 108)).cell? ((⟨w.heap.size + 1, 0, none⟩ : Addr).add j) = some u := by
  have h := Cbox.new (w.alloc o) (tcs x) 108
  rw [World.size_alloc] at h
  exact World.news_of_block h
theorem one_tok (x : Tok) : ∀ u ∈ (tcs x).toList, u.oneCell' = true := by
  intro u hu
  simp at hu
  rcases hu with rfl | rfl | rfl | rfl | rfl | rfl | rfl <;> rfl
theorem Towns.push {w : World} {base n : Nat} {v : Value} {acc : List Tok} {x : Tok} (h : w.ownsRow base 108 7 v n (tcells acc ++ (tcs x).toList)) (hn : n = acc.length + 1) : Towns w base v (acc ++ [x]) := by
  unfold Towns
  rw [tcells_snoc, List.length_append]
  subst hn
  exact h

theorem infoTok : (Tryz.prog.info? 108).map (fun i => (i.zero, i.size, i.bytes)) = some (some (.agg #[.int .i64 0, .string ⟨#[]⟩, .int .i64 0, .int .i64 0, .int .i64 0, .string ⟨#[]⟩, .int .i64 0]), 7, 72) := by kernel_rfl

set_option maxRecDepth 20000 in
set_option maxHeartbeats 4000000 in
theorem split_any (l : List UInt8) (w : World) (hl : l.length ≤ 4096) (hT : Tabs w) (hP : Ptab w) :
    Calls Tryz.prog 42 #[.string ⟨l.toArray⟩] w fun e w' => splitP (lexL vz dpv l 0) w.heap.size e w' ∧ Below w.heap.size w w' := by
  have hsz : (ByteArray.mk l.toArray).size = l.length := rfl
  have hl' : ¬ (4096 : Int) < (l.length : Int) := by omega
  have PB : ∀ (k : Nat) W, k ≤ l.length → Calls Tryz.prog 71 #[.string ⟨l.toArray⟩, .int .i64 (k : Int)] W fun e w' => e = .returned (.int .i64 ((k + blankN (l.drop k) : Nat) : Int)) ∧ W = w' := fun k W h => pastBlanks_any l k W (by omega) h
  have TA : ∀ (k : Nat) W, k ≤ l.length → Below w.heap.size w W → _ := fun k W h hb => tokenAt_any l k W (by omega) h (hT.later hb) (hP.later hb)
  have PB0 := fun W => PB 0 W (by omega)
  clear hT hP
  obtain ⟨R, hR⟩ : ∃ R, R = lexL vz dpv l 0 := ⟨_, rfl⟩
  rw [← hR]
  have h0 : Hid (R = lexL vz dpv (l.drop (blankN l)) (blankN l)) := by
    show R = _
    rw [hR, lex_pass, Nat.zero_add]
  have hb0 := blankN_drop l
  have hle0 := blankN_le l
  generalize hB : ByteArray.mk l.toArray = B at *
  go_enter Tryz.func42, Tryz.ntmps42
  go_wp2_with (go_at_call 71; refine (PB0 _).mono ?_; rintro e w' ⟨rfl, rfl⟩)
  go_loopw [4, 5] (fun r4 r5 wr => ∃ (acc : List Tok) (k : Nat), r5 = .int .i64 (k : Int) ∧ k ≤ l.length ∧ acc.length ≤ k ∧ blankN (l.drop k) = 0 ∧ Towns wr w.heap.size r4 acc ∧ Below w.heap.size w wr ∧ Hid (R = (lexL vz dpv (l.drop k) k).map (acc ++ ·))) (fun _ r _ => l.length - (intOf r).toNat)
  case atStart =>
    refine ⟨[], blankN l, rfl, hle0, Nat.zero_le _, hb0, World.ownsRow_nil _ _ _ _, Below.refl _ _, ?_⟩
    show R = _
    rw [h0.out]
    cases lexL vz dpv (l.drop (blankN l)) (blankN l) <;> rfl
  case round =>
    obtain ⟨acc, k, rfl, hk, hak, hbk, ho, hb, hH⟩ := hrel
    have sB := hb.size
    by_cases hlt : k < l.length
    · have hlt' : (k : Int) < (l.length : Int) := by omega
      have hne : l.drop k ≠ [] := by
        intro h
        have := List.drop_eq_nil_iff.1 h
        omega
      have hhere := lex_here (z := vz) (f := dpv) (l.drop k) k hbk hne
      have TK := TA k wr hk hb
      cases ht : tok vz dpv (l.drop k) k with
      | none =>
        rw [ht] at TK hhere
        have hR' : Hid (R = none) := by
          show R = none
          rw [hH.out, hhere]; rfl
        clear hH hhere ht hne hR h0 ho PB PB0 TA
        go_wp2_with (go_at_call 72; refine TK.mono ?_; rintro e w1 ⟨⟨⟨xk, xt, xv, xa⟩, rfl⟩, b1⟩)
        refine bodyPost_ret_by (v := .tuple #[.slice none 0 0, .int .i64 30]) ?_ rfl ⟨?_, ?_⟩
        · simp [results, Tryz.results42, go_sem]
        · rw [hR'.out]; exact rfl
        · exact (hb.trans (b1.mono sB)).alloc (by have := b1.size; omega) _
      | some x =>
        rw [ht] at TK hhere
        obtain ⟨hxt, h2, h3, h4, h5⟩ := tok_len ht
        have h6 := lxt_le (l.drop k)
        rw [List.length_drop] at h6
        obtain ⟨xk, xt, xv, xa⟩ := x
        have e1 : ((k + xt.length : Nat) : Int) = (k : Int) + (xt.length : Int) := by omega
        have hkx : k + xt.length ≤ l.length := by simp at h2; omega
        have PBk : ∀ W, Calls Tryz.prog 71 #[.string B, .int .i64 ((k : Int) + (xt.length : Int))] W fun e w' => e = .returned (.int .i64 ((k + xt.length + blankN (l.drop (k + xt.length)) : Nat) : Int)) ∧ W = w' := fun W => by
          have := PB (k + xt.length) W hkx
          rwa [e1] at this
        have hstep : Hid (R = (lexL vz dpv (l.drop (k + xt.length + blankN (l.drop (k + xt.length)))) (k + xt.length + blankN (l.drop (k + xt.length)))).map ((acc ++ [⟨xk, xt, xv, xa⟩]) ++ ·)) := by
          show R = _
          rw [hH.out, hhere]
          simp only
          rw [List.drop_drop, lex_pass, List.drop_drop]
          cases lexL vz dpv (l.drop (k + xt.length + blankN (l.drop (k + xt.length)))) (k + xt.length + blankN (l.drop (k + xt.length))) <;> simp
        have hbn := blankN_drop (l.drop (k + xt.length))
        have hbl := blankN_le (l.drop (k + xt.length))
        rw [List.drop_drop] at hbn
        rw [List.length_drop] at hbl
        have hsx : (ByteArray.mk xt.toArray).size = xt.length := rfl
        have hx1 : 1 ≤ xt.length := by simp at h2; omega
        generalize hq : k + xt.length + blankN (l.drop (k + xt.length)) = q at *
        have hql : q ≤ l.length := by omega
        have hqk : k < q := by omega
        clear hH hhere ht hne hR h0 PB PB0 TA hxt h2 h3 h4 h5 h6 hbk hq hbl
        obtain ⟨i0, hi, hz0, hz1, hz2⟩ := info_parts infoTok
        go_wp2_with (first
          | (go_at_call 72; refine TK.mono ?_; rintro e w1 ⟨rfl, b1⟩; have s1 := b1.size; have hb1 : Below w.heap.size w w1 := hb.trans (b1.mono sB); have ho1 := ho.later b1; clear b1 ho TK)
          | (at_builtin; refine wpList_append_own _ rfl _ _ 76 rfl w.heap.size 108 i0 (.agg #[.int .i64 0, .string ⟨#[]⟩, .int .i64 0, .int .i64 0, .int .i64 0, .string ⟨#[]⟩, .int .i64 0]) 7 72 Tryz.underlying76 hi hz0 hz1 hz2 rfl (by decide) _ _ _ rfl (World.ownsRow.alloc (World.ownsRow.alloc ho1 _) _) ⟨w1.heap.size + 1, 0, none⟩ 1 1 (tcs ⟨xk, xt, xv, xa⟩).toList rfl rfl (news_tok w1 _ ⟨xk, xt, xv, xa⟩) (one_tok ⟨xk, xt, xv, xa⟩) (by unfold maxLen; omega) (by omega) (by simp; omega) ?_))
        intro v2 w2 hown2 hgrow2 _
        have hb2 : Below w.heap.size w w2 := (((hb1.alloc (by omega) _).alloc (by simp; omega) _).grown hgrow2 (by simp; omega) (fun k hk => (World.ownsRow.lt ho1 k hk).1))
        have ho2 := Towns.push (x := ⟨xk, xt, xv, xa⟩) hown2 rfl
        have hcb : Cbox ((w1.alloc (.cells (tcs ⟨xk, xt, xv, xa⟩) 108)).alloc (.cells (tcs ⟨xk, xt, xv, xa⟩) 108)) w1.heap.size (tcs ⟨xk, xt, xv, xa⟩) 108 := (Cbox.new w1 _ _).later ((Below.refl _ _).alloc (Nat.le_refl _) _)
        have hcb2 := hcb.grown hgrow2 (fun h => by have := (World.ownsRow.lt ho1 _ h.symm).2; omega)
        have c1 := hcb2.at 1
        have lt1 := hcb2.lt
        clear hcb hcb2 hown2 hgrow2 ho1 hb1 hb
        go_wp2_with (go_at_call 71; refine (PBk _).mono ?_; rintro e w' ⟨rfl, rfl⟩)
        exact ⟨⟨acc ++ [⟨xk, xt, xv, xa⟩], q, rfl, hql, by simp; omega, hbn, ho2, hb2, hstep⟩, by simp [intOf]; omega⟩
    · have hlt' : ¬ (k : Int) < (l.length : Int) := by omega
      have hk' : k = l.length := by omega
      have hR' : Hid (R = some acc) := by
        show R = _
        rw [hH.out, hk', List.drop_length, lex_nil]
        simp
      clear hH hR h0 PB PB0 TA
      go_wp2
      refine bodyPost_ret_by (v := .tuple #[u4, .int .i64 0]) ?_ rfl ⟨?_, hb⟩
      · simp [results, Tryz.results42, go_sem]
      · rw [hR'.out]; exact ⟨_, rfl, ho⟩

theorem split_big (B : ByteArray) (w : World) (hl : 4096 < B.size) :
    Calls Tryz.prog 42 #[.string B] w fun e w' => e = .returned (.tuple #[.slice none 0 0, .int .i64 6]) ∧ w = w' := by
  have hl' : (4096 : Int) < (B.size : Int) := by omega
  go_enter Tryz.func42, Tryz.ntmps42
  go_wp2
  refine bodyPost_ret_by (v := .tuple #[.slice none 0 0, .int .i64 6]) ?_ rfl ⟨rfl, rfl⟩
  simp [results, Tryz.results42, go_sem]
end Go.Proofs.YtclhmmgdhagloaaGreatDoor

namespace Go.Proofs.YtclhmmgdhagloaaGreatDoor
open Go.RowKit Go.Shelf
attribute [local go_sem] cell?_more frozen?_more setCell_more more_lt more_more more_drew more_drewN setCell_drewN alloc_drewN

/-- Is a text a word? -/
def wordL (l : List UInt8) : Bool := decide ((lxt l).1 = 1) && (decide ((lxt l).2 = l.length) && decide (l.length ≤ 32))

theorem word_any (l : List UInt8) (w : World) (hl : l.length ≤ 140737488351232) : Calls Tryz.prog 185 #[.string ⟨l.toArray⟩] w fun e w' => e = .returned (.bool (wordL l)) ∧ w = w' := by
  have D : ∀ W, Calls Tryz.prog 132 #[.string ⟨l.toArray⟩, .int .i64 0] W fun e w' => e = .returned (tv l 0) ∧ W = w' := fun W => told_any l 0 W hl
  have F := fun W => fitsName_any ⟨l.toArray⟩ W
  have hsz : (ByteArray.mk l.toArray).size = l.length := rfl
  rw [hsz] at F
  unfold tv at D
  rw [List.drop_zero] at D
  unfold wordL
  have hle := lxt_le l
  by_cases h1 : (lxt l).1 = 1
  · rw [h1] at D ⊢
    rw [if_neg (by decide), Nat.zero_add] at D
    by_cases h2 : (lxt l).2 = l.length
    · rw [h2] at D ⊢
      have hq : ((l.length : Int) == (l.length : Int)) = true := by simp
      rw [decide_eq_true rfl, decide_eq_true rfl, Bool.true_and, Bool.true_and]
      generalize decide (l.length ≤ 32) = b at *
      generalize ByteArray.mk l.toArray = B at *
      clear h1 h2 hle
      go_enter Tryz.func185, Tryz.ntmps185
      go_wp2_with (first
        | (go_at_call 132; refine (D _).mono ?_; rintro e w' ⟨rfl, rfl⟩)
        | (go_at_call 133; refine (F _).mono ?_; rintro e w' ⟨rfl, rfl⟩))
      go_ret
      exact ⟨rfl, rfl⟩
    · have hq : (((lxt l).2 : Int) == (l.length : Int)) = false := by rw [beq_eq_false_iff_ne]; omega
      rw [decide_eq_false h2, Bool.false_and, Bool.and_false]
      generalize ByteArray.mk l.toArray = B at *
      generalize (lxt l).2 = n at *
      clear h1 h2 hle F
      go_enter Tryz.func185, Tryz.ntmps185
      go_wp2_with (go_at_call 132; refine (D _).mono ?_; rintro e w' ⟨rfl, rfl⟩)
      go_ret
      exact ⟨rfl, rfl⟩
  · have hq : (((lxt l).1 : Int) == 1) = false := by rw [beq_eq_false_iff_ne]; omega
    rw [decide_eq_false h1, Bool.false_and]
    generalize ByteArray.mk l.toArray = B at *
    generalize ((if (lxt l).1 = 0 then 0 else 0 + (lxt l).2 : Nat) : Int) = n at *
    generalize (lxt l).1 = k at *
    clear h1 hle F
    go_enter Tryz.func185, Tryz.ntmps185
    go_wp2_with (go_at_call 132; refine (D _).mono ?_; rintro e w' ⟨rfl, rfl⟩)
    go_ret
    exact ⟨rfl, rfl⟩

/-- A token of whatever parts. -/
structure Ti where
  k : Int
  t : List UInt8
  v : Va
  a : Int
abbrev ics (x : Ti) : Array Value := #[.int .i64 x.k, .string ⟨x.t.toArray⟩, .int .i64 x.v.k, .int .i64 x.v.n, .int .i64 x.v.m, .string ⟨x.v.b.toArray⟩, .int .i64 x.a]
abbrev tiv (x : Ti) : Value := .agg (ics x)
abbrev tin (x : Tok) : Ti := ⟨x.k, x.t, x.v, x.a⟩

/-- Are two values the same, part by part? -/
def sameW (a b : Va) : Bool := a.k == b.k && (a.n == b.n && (a.m == b.m && a.b == b.b))
def sameT (x y : Ti) : Bool := x.k == y.k && (x.t == y.t && (sameW x.v y.v && x.a == y.a))

theorem eqTk_at (N : Nat) (k k' a a' vk vn vm vk' vn' vm' : Int) (b b' c c' : ByteArray) (w : World) :
    (Op.equalIn (N + 3) 108 (.agg #[.int .i64 k, .string b, .int .i64 vk, .int .i64 vn, .int .i64 vm, .string c, .int .i64 a]) (.agg #[.int .i64 k', .string b', .int .i64 vk', .int .i64 vn', .int .i64 vm', .string c', .int .i64 a'])).run Tryz.prog w
      = .ok (k == k' && (b.toList == b'.toList && ((vk == vk' && (vn == vn' && (vm == vm' && c.toList == c'.toList))) && a == a'))) w := by
  have u3 := Tryz.underlying3
  have a3 := Tryz.isAgg3
  have z3 := Tryz.sizeOf3
  have u4 := Tryz.underlying9
  have a4 := Tryz.isAgg9
  have z4 := Tryz.sizeOf9
  have a5 := Tryz.isAgg42
  have hS : Tryz.prog.underlying 108 = some (.struct (Tryz.prog.fieldsOf 108)) := by kernel_rfl
  have hp : Tryz.prog.stoodInHeld 108 = false := by kernel_rfl
  rw [run_equalIn_agg w (N + 2) 108 _ _ hS hp]
  simp only [Program.fieldsOf, Tryz.underlying108]
  go_simp
  by_cases h1 : k = k'
  case neg => simp [h1]
  by_cases h2 : b.toList = b'.toList
  case neg => simp [h2]
  by_cases h3 : vk = vk'
  case neg => simp [h3]
  by_cases h4 : vn = vn'
  case neg => simp [h4]
  by_cases h5 : vm = vm'
  case neg => simp [h5]
  by_cases h6 : c.toList = c'.toList
  case neg => simp [h6]
  by_cases h7 : a = a' <;> simp [h1, h2, h3, h4, h5, h6, h7]

theorem ba_eq (a b : List UInt8) : ((ByteArray.mk a.toArray).toList == (ByteArray.mk b.toArray).toList) = (a == b) := by
  rw [ByteArray.toList_eq, ByteArray.toList_eq]
theorem eqTi (x y : Ti) (w : World) : (Op.equalIn 10000 108 (tiv x) (tiv y)).run Tryz.prog w = .ok (sameT x y) w := by
  have := eqTk_at 9997 x.k y.k x.a y.a x.v.k x.v.n x.v.m y.v.k y.v.n y.v.m ⟨x.t.toArray⟩ ⟨y.t.toArray⟩ ⟨x.v.b.toArray⟩ ⟨y.v.b.toArray⟩ w
  rw [ba_eq, ba_eq] at this
  exact this

/-- A token lies in seven cells of a block. -/
def T7 (w : World) (b o : Nat) (x : Ti) : Prop :=
  w.cell? ⟨b, o, none⟩ = some (.int .i64 x.k) ∧ w.cell? ⟨b, o + 1, none⟩ = some (.string ⟨x.t.toArray⟩) ∧ w.cell? ⟨b, o + 2, none⟩ = some (.int .i64 x.v.k) ∧ w.cell? ⟨b, o + 3, none⟩ = some (.int .i64 x.v.n) ∧
    w.cell? ⟨b, o + 4, none⟩ = some (.int .i64 x.v.m) ∧ w.cell? ⟨b, o + 5, none⟩ = some (.string ⟨x.v.b.toArray⟩) ∧ w.cell? ⟨b, o + 6, none⟩ = some (.int .i64 x.a)
theorem T7.lt {w : World} {b o : Nat} {x : Ti} (h : T7 w b o x) : b < w.heap.size := World.block_lt_of_cell? w _ h.1
theorem T7.later {w w' : World} {b o : Nat} {x : Ti} (h : T7 w b o x) (hb : Below w.heap.size w w') : T7 w' b o x := by
  have hl := h.lt
  obtain ⟨h0, h1, h2, h3, h4, h5, h6⟩ := h
  exact ⟨(hb.cell (p := ⟨b, o, none⟩) hl).trans h0, (hb.cell (p := ⟨b, o + 1, none⟩) hl).trans h1, (hb.cell (p := ⟨b, o + 2, none⟩) hl).trans h2, (hb.cell (p := ⟨b, o + 3, none⟩) hl).trans h3, (hb.cell (p := ⟨b, o + 4, none⟩) hl).trans h4, (hb.cell (p := ⟨b, o + 5, none⟩) hl).trans h5, (hb.cell (p := ⟨b, o + 6, none⟩) hl).trans h6⟩
/-- A row of tokens lies behind an address. -/
def Tw (w : World) (ao : Option Addr) (l : List Ti) : Prop :=
  0 < l.length → ∃ b off, ao = some ⟨b, off, none⟩ ∧ ∀ i (h : i < l.length), T7 w b (off + i * 7) l[i]
theorem Tw.later {w w' : World} {ao : Option Addr} {l : List Ti} (h : Tw w ao l) (hb : Below w.heap.size w w') : Tw w' ao l := by
  intro hp
  obtain ⟨b, off, e, hc⟩ := h hp
  exact ⟨b, off, e, fun i hi => (hc i hi).later hb⟩

theorem tcells_at (x : List Tok) : ∀ (i j : Nat) (hi : i < x.length), j < 7 → (tcells x)[i * 7 + j]? = (tcs x[i])[j]? := by
  induction x with
  | nil => intro i j hi; simp at hi
  | cons t x ih =>
    intro i j hi hj
    have e : tcells (t :: x) = (tcs t).toList ++ tcells x := by simp [tcells]
    rw [e]
    cases i with
    | zero =>
      rw [List.getElem?_append_left (by simpa using hj)]
      simp
    | succ i =>
      rw [List.getElem?_append_right (by simp; omega)]
      simp at hi
      have := ih i j hi hj
      simp only [List.getElem_cons_succ]
      rw [← this]
      congr 1
      simp; omega
/-- What a slice of one's own tokens looks like. -/
theorem Towns.shape {w : World} {base : Nat} {v : Value} {x : List Tok} (h : Towns w base v x) :
    ∃ ao cap, v = .slice ao x.length cap ∧ Tw w ao (x.map tin) := by
  obtain ⟨h1, h2⟩ := h
  rcases h2 with ⟨rfl, hn⟩ | ⟨g, cap, cur, rfl, hb, hg, hnc, hcm, hcs, htake⟩
  · refine ⟨none, 0, by rw [hn], fun hp => ?_⟩
    rw [List.length_map] at hp
    omega
  · refine ⟨some ⟨g, 0, none⟩, cap, rfl, fun hp => ⟨g, 0, rfl, fun i hi => ?_⟩⟩
    rw [List.length_map] at hi
    have hc : ∀ j, j < 7 → w.cell? ⟨g, 0 + i * 7 + j, none⟩ = (tcs x[i])[j]? := by
      intro j hj
      rw [← tcells_at x i j hi hj, cell_of_row w g (0 + i * 7 + j) cur _ (0, 0) hg, ← htake]
      rw [List.getElem?_take, if_pos (by omega), Nat.zero_add]
      simp
    rw [List.getElem_map]
    exact ⟨hc 0 (by decide), hc 1 (by decide), hc 2 (by decide), hc 3 (by decide), hc 4 (by decide), hc 5 (by decide), hc 6 (by decide)⟩

/-- Is a token just what its text alone is told to be? -/
def rt1 (r : Option (List Tok)) (x : Ti) : Bool := match r with | some [y] => sameT (tin y) ⟨x.k, x.t, x.v, 0⟩ | _ => false
def rtok (x : Ti) : Bool := if x.t.length ≤ 4096 then rt1 (lexL vz dpv x.t 0) x else false

set_option maxHeartbeats 4000000 in
theorem right_any5 (x : Ti) (w : World) (hT : Tabs w) (hP : Ptab w) : Calls Tryz.prog 135 #[tiv x] w fun e w' => e = .returned (.bool (rtok x)) ∧ Below w.heap.size w w' := by
  obtain ⟨k, t, v, a⟩ := x
  have Z := Cbox.new w (ics ⟨k, t, v, a⟩) 108
  obtain ⟨G, hG⟩ : ∃ G, G = rtok ⟨k, t, v, a⟩ := ⟨_, rfl⟩
  rw [← hG]
  unfold rtok at hG
  simp only at hG
  by_cases hl : t.length ≤ 4096
  · have S : ∀ W, Below w.heap.size w W → Calls Tryz.prog 42 #[.string ⟨t.toArray⟩] W fun e w' => splitP (lexL vz dpv t 0) W.heap.size e w' ∧ Below W.heap.size W w' := fun W h => split_any t W hl (hT.later h) (hP.later h)
    clear hT hP
    rw [if_pos hl] at hG
    have HG : Hid (G = rt1 (lexL vz dpv t 0) ⟨k, t, v, a⟩) := hG
    clear hG
    go_enter Tryz.func135, Tryz.ntmps135
    go_wp2_with fail
    refine (S _ ((Below.refl _ w).alloc (Nat.le_refl _) _)).mono ?_
    rintro e w1 ⟨he, b1⟩
    have zz := (Cbox.new w (ics ⟨k, t, v, 0⟩) 108).later b1
    have B1 : Below w.heap.size w w1 := ((Below.refl _ w).alloc (Nat.le_refl _) _).trans (b1.mono (by simp))
    have z0 := zz.at 0
    have z1 := zz.at 1
    have z2 := zz.at 2
    have z3 := zz.at 3
    have z4 := zz.at 4
    have z5 := zz.at 5
    have z6 := zz.at 6
    have lt1 := zz.lt
    clear zz Z S b1
    cases hr : lexL vz dpv t 0 with
    | none =>
      rw [hr] at he
      have he' : e = .returned (.tuple #[.slice none 0 0, .int .i64 30]) := he
      subst he'
      have HF : Hid (G = false) := by
        show G = false
        rw [HG.out, hr]; rfl
      clear he hr HG
      go_wp2
      go_region
      all_goals go_wp2
      all_goals go_ret
      all_goals exact ⟨by rw [HF.out]; rfl, by first | exact B1 | exact B1.drew⟩
    | some xs =>
      rw [hr] at he
      obtain ⟨sv, rfl, ho⟩ := he
      obtain ⟨ao, cap, rfl, hw⟩ := ho.shape
      have HG2 : Hid (G = rt1 (some xs) ⟨k, t, v, a⟩) := by
        have := HG.out
        rw [hr] at this
        exact this
      clear ho hr HG
      match xs, hw, HG2 with
      | [], _, HG2 =>
        have HF : Hid (G = false) := HG2.out
        clear HG2
        go_wp2
        go_region
        all_goals go_wp2
        all_goals go_ret
        all_goals exact ⟨by rw [HF.out]; rfl, by first | exact B1 | exact B1.drew⟩
      | [y], hw, HG2 =>
        obtain ⟨b, off, rfl, hc⟩ := hw (by simp)
        obtain ⟨y0, y1, y2, y3, y4, y5, y6⟩ := hc 0 (by simp)
        have heq := fun W => eqTi (tin y) ⟨k, t, v, 0⟩ W
        have HF : Hid (G = sameT (tin y) ⟨k, t, v, 0⟩) := HG2.out
        clear HG2
        generalize sameT (tin y) ⟨k, t, v, 0⟩ = g at *
        obtain ⟨yk, yt, yv, ya⟩ := y
        have hlt := (hc 0 (by simp)).lt
        clear hc hw
        simp only [Nat.zero_mul, Nat.add_zero, List.map_cons, List.map_nil, List.getElem_cons_zero] at y0 y1 y2 y3 y4 y5 y6
        have heq' : ∀ W, (Op.equalIn 10000 108 (.agg #[.int .i64 (yk : Int), .string ⟨yt.toArray⟩, .int .i64 yv.k, .int .i64 yv.n, .int .i64 yv.m, .string ⟨yv.b.toArray⟩, .int .i64 (ya : Int)]) (.agg #[.int .i64 k, .string ⟨t.toArray⟩, .int .i64 v.k, .int .i64 v.n, .int .i64 v.m, .string ⟨v.b.toArray⟩, .int .i64 0])).run Tryz.prog W = .ok g W := heq
        clear heq
        go_wp2
        go_region
        all_goals go_wp2
        all_goals go_ret
        all_goals exact ⟨by rw [HF.out]; rfl, by first | exact B1 | exact B1.drew⟩
      | y1 :: y2 :: ys, _, HG2 =>
        have HF : Hid (G = false) := HG2.out
        clear HG2
        have hne : (((y1 :: y2 :: ys).length : Int) == 1) = false := by rw [beq_eq_false_iff_ne]; simp; omega
        generalize (y1 :: y2 :: ys).length = n at *
        go_wp2
        go_region
        all_goals go_wp2
        all_goals go_ret
        all_goals exact ⟨by rw [HF.out]; rfl, by first | exact B1 | exact B1.drew⟩
  · have S : ∀ W, Calls Tryz.prog 42 #[.string ⟨t.toArray⟩] W fun e w' => e = .returned (.tuple #[.slice none 0 0, .int .i64 6]) ∧ W = w' := fun W => split_big ⟨t.toArray⟩ W (by show 4096 < t.length; omega)
    rw [if_neg hl] at hG
    have HF : Hid (G = false) := hG
    clear hT hP Z hG
    go_enter Tryz.func135, Tryz.ntmps135
    go_wp2_with (go_at_call 42; refine (S _).mono ?_; rintro e w' ⟨rfl, rfl⟩)
    go_region
    all_goals go_wp2
    all_goals go_ret
    all_goals exact ⟨by rw [HF.out]; rfl, by first | exact (Below.refl _ w).alloc (Nat.le_refl _) _ | exact ((Below.refl _ w).alloc (Nat.le_refl _) _).drew⟩
end Go.Proofs.YtclhmmgdhagloaaGreatDoor
