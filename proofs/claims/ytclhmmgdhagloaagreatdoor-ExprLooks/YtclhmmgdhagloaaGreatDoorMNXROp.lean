/-
  The contract of expr.Parse, of a text that the lexer splits.
  The text that longstoplaw06.knows knows, its tokens and its nodes.
  What datum.Parse tells of a text that is no literal; of the known tokens.
  expr.Parse of the known text.
  The contract of longstoplaw06.knows.
  With a not behind them nodes are one deeper, or too deep; their columns are the same, and their text stands within.
  What datum.Print tells of the values that a literal may have: null and the two truths besides.
  Of nodes that are an expression names and texts are short.
  The walk of longstoplaw06.ExprDeeper.
  The tables that lie: strconv's powers, the signs of expr; names that came in are not too long.
  The document's Reserved, Free and literal.
  The document's literal and operands of a node.
-/
import Derived.Test.YtclhmmgdhagloaaGreatDoorEPrt6
import Derived.Test.YtclhmmgdhagloaaGreatDoorMKECol
import Derived.Test.YtclhmmgdhagloaaGreatDoorMFEFit
import Derived.Test.YtclhmmgdhagloaaGreatDoorMBVTruW
namespace Go.Proofs.YtclhmmgdhagloaaGreatDoor
open Go.RowKit Go.Shelf
attribute [local go_sem] cell?_more frozen?_more setCell_more more_lt more_more more_drew more_drewN setCell_drewN alloc_drewN

theorem Nowns.base_le {w : World} {b b' : Nat} {v : Value} {x : List Nd} (h : Nowns w b v x) (hb : b' ≤ b) : Nowns w b' v x := by
  obtain ⟨h1, h2⟩ := h
  refine ⟨h1, ?_⟩
  rcases h2 with h2 | ⟨g, cap, cur, e1, e2, e3⟩
  · exact .inl h2
  · exact .inr ⟨g, cap, cur, e1, Nat.le_trans hb e2, e3⟩

/-- What Parse answers, of so many tokens. -/
def parseP (R : Rz) (n base : Nat) (e : Ending) (w' : World) : Prop :=
  if R.1 = 0 then (if 0 < depN mayN R.2.2 then (if R.2.1 < n then e = .returned (.tuple #[.slice none 0 0, .int .i64 30]) else ∃ v, e = .returned (.tuple #[v, .int .i64 0]) ∧ Nowns w' base v R.2.2) else e = .returned (.tuple #[.slice none 0 0, .int .i64 38]))
  else e = .returned (.tuple #[.slice none 0 0, .int .i64 (R.1 : Int)])

set_option maxRecDepth 20000 in
set_option maxHeartbeats 4000000 in
theorem parse6_any (l : List UInt8) (x : List Tok) (V : List UInt8 → Option Va) (w : World) (hl : l.length ≤ 4096) (hT : Tabs w) (hP : Ptab w) (hS : Sg w) (hx : lexL vz dpv l 0 = some x) (hn : x.length ≤ 4096)
    (PA : ∀ W, Below w.heap.size w W → Pars W (x.map tin) V) (R : Rz) (hR : rdx (nxt (x.map tin)) V (x.length + 1) (7 + 8 * x.length) .ex 0 [] 0 = R) (hsh : shN R.2.2) (hr2 : R.2.1 ≤ 4096) :
    Calls Tryz.prog 20 #[.string ⟨l.toArray⟩] w fun e w' => parseP R x.length w.heap.size e w' ∧ Below w.heap.size w w' := by
  have SP := split_any l w hl hT hP
  rw [hx] at SP
  have RD : Hid (∀ W v, Below w.heap.size w W → Towns W w.heap.size v x → Calls Tryz.prog 43 #[v] W fun e w' => readP R W.heap.size e w' ∧ Below W.heap.size W w') := by
    intro W v hW hv
    obtain ⟨ao, cap, rfl, htw⟩ := hv.shape
    have := read_any ao (x.map tin) cap V W ⟨htw, hT.later hW, hP.later hW, by rw [List.length_map]; exact hn, hS.later hW⟩ (PA W hW) R (by rw [List.length_map]; exact hR) hsh
    rw [List.length_map] at this
    exact this
  have TS : Hid (∀ W v, Towns W w.heap.size v x → ∃ ao cap, v = .slice ao x.length cap) := by
    intro W v hv
    obtain ⟨ao, cap, h, _⟩ := hv.shape
    exact ⟨ao, cap, h⟩
  clear hT hP hS PA hR hsh hx
  obtain ⟨r0, r1, r2⟩ := R
  simp only at hr2
  unfold parseP
  unfold readP at RD
  simp only at RD ⊢
  generalize hxl : x.length = n at *
  by_cases h0 : r0 = 0
  case neg =>
    simp only [if_neg h0] at RD ⊢
    have h0' : ((r0 : Int) == 0) = false := by rw [beq_eq_false_iff_ne]; omega
    go_enter Tryz.func20, Tryz.ntmps20
    go_wp2_with (first
      | (go_at_call 42; refine SP.mono ?_; rintro e w1 ⟨⟨v, rfl, h1⟩, b1⟩; obtain ⟨ao, cap, rfl⟩ := TS.out _ _ h1; have RD1 := RD.out _ _ b1 h1)
      | (go_at_call 43; refine RD1.mono ?_; rintro e w2 ⟨rfl, b2⟩))
    refine bodyPost_ret_by (v := .tuple #[.slice none 0 0, .int .i64 (r0 : Int)]) ?_ rfl ⟨rfl, below_trans b1 b2⟩
    simp [results, Tryz.results20, go_sem]
  subst h0
  simp only [↓reduceIte] at RD ⊢
  by_cases hd : 0 < depN mayN r2
  case neg =>
    simp only [if_neg hd] at RD ⊢
    go_enter Tryz.func20, Tryz.ntmps20
    go_wp2_with (first
      | (go_at_call 42; refine SP.mono ?_; rintro e w1 ⟨⟨v, rfl, h1⟩, b1⟩; obtain ⟨ao, cap, rfl⟩ := TS.out _ _ h1; have RD1 := RD.out _ _ b1 h1)
      | (go_at_call 43; refine RD1.mono ?_; rintro e w2 ⟨rfl, b2⟩))
    refine bodyPost_ret_by (v := .tuple #[.slice none 0 0, .int .i64 38]) ?_ rfl ⟨rfl, below_trans b1 b2⟩
    simp [results, Tryz.results20, go_sem]
  simp only [if_pos hd] at RD ⊢
  by_cases hlt : r1 < n
  · simp only [if_pos hlt]
    have hlt' : (r1 : Int) < (n : Int) := by omega
    go_enter Tryz.func20, Tryz.ntmps20
    go_wp2_with (first
      | (go_at_call 42; refine SP.mono ?_; rintro e w1 ⟨⟨v, rfl, h1⟩, b1⟩; obtain ⟨ao, cap, rfl⟩ := TS.out _ _ h1; have RD1 := RD.out _ _ b1 h1)
      | (go_at_call 43; refine RD1.mono ?_; rintro e w2 ⟨⟨nv, rfl, h2⟩, b2⟩))
    refine bodyPost_ret_by (v := .tuple #[.slice none 0 0, .int .i64 30]) ?_ rfl ⟨rfl, below_trans b1 b2⟩
    simp [results, Tryz.results20, go_sem]
  · simp only [if_neg hlt]
    have hlt' : ¬ (r1 : Int) < (n : Int) := by omega
    go_enter Tryz.func20, Tryz.ntmps20
    go_wp2_with (first
      | (go_at_call 42; refine SP.mono ?_; rintro e w1 ⟨⟨v, rfl, h1⟩, b1⟩; obtain ⟨ao, cap, rfl⟩ := TS.out _ _ h1; have RD1 := RD.out _ _ b1 h1)
      | (go_at_call 43; refine RD1.mono ?_; rintro e w2 ⟨⟨nv, rfl, h2⟩, b2⟩))
    refine bodyPost_ret_by (v := .tuple #[nv, .int .i64 0]) ?_ rfl ⟨⟨nv, rfl, Nowns.base_le h2 b1.size⟩, below_trans b1 b2⟩
    simp [results, Tryz.results20, go_sem]
end Go.Proofs.YtclhmmgdhagloaaGreatDoor

namespace Go.Proofs.YtclhmmgdhagloaaGreatDoor
open Go.RowKit Go.Shelf

abbrev Q0 : List UInt8 := [97, 32, 43, 32, 50, 32, 42, 32, 98]
abbrev Q1 : Tok := ⟨1, [97], vz, 0⟩
abbrev Q2 : Tok := ⟨2, [43], vz, 2⟩
abbrev Q3 : Tok := ⟨3, [50], ⟨1, 2, 0, []⟩, 4⟩
abbrev Q4 : Tok := ⟨2, [42], vz, 6⟩
abbrev Q5 : Tok := ⟨1, [98], vz, 8⟩

theorem pv_2 : pv ⟨1, 2, 0, []⟩ = [50] := by
  have hPR : PR [50] = some (false, 2, 0) := by decide +kernel
  have hb := (PR_back [50] false 2 0 hPR (by decide +kernel)).2
  have hvr : vr ⟨1, 2, 0, []⟩ = true := by decide +kernel
  unfold pv
  rw [if_pos hvr]
  show dtext 2 0 = _
  exact hb
theorem dpv_2 : dpv [50] = some ⟨1, 2, 0, []⟩ := by
  have hPR : PR [50] = some (false, 2, 0) := by decide +kernel
  have htl : tlv [50] = (⟨1, 2, 0, []⟩, true) := by
    unfold tlv tnv
    rw [if_neg (by decide), show trimP [50] = [50] by decide, hPR]
    rfl
  unfold dpv
  rw [htl]
  rw [if_pos ⟨rfl, pv_2⟩]

theorem lex_Q (l : List UInt8) (i : Nat) (c : UInt8) (_k _n : Nat) (x : Tok) (h : isB c = false) (hk : tok vz dpv (c :: l) i = some x) : lexL vz dpv (c :: l) i = (lexL vz dpv ((c :: l).drop x.t.length) (i + x.t.length)).map (x :: ·) := by
  rw [lex_tok _ _ _ h, hk]
theorem lex_Q0 : lexL vz dpv Q0 0 = some [Q1, Q2, Q3, Q4, Q5] := by
  rw [lex_Q _ 0 97 0 0 Q1 (by decide) (by
    have h : lxt Q0 = (1, 1) := by decide +kernel
    unfold tok; rw [h]; rfl)]
  show (lexL vz dpv [32, 43, 32, 50, 32, 42, 32, 98] 1).map _ = _
  rw [lex_blank _ _ _ (by decide), lex_Q _ _ 43 0 0 Q2 (by decide) (by
    have h : lxt [43, 32, 50, 32, 42, 32, 98] = (2, 1) := by decide +kernel
    unfold tok; rw [h]; rfl)]
  show Option.map _ (Option.map _ (lexL vz dpv [32, 50, 32, 42, 32, 98] 3)) = _
  rw [lex_blank _ _ _ (by decide), lex_Q _ _ 50 0 0 Q3 (by decide) (by
    have h : lxt [50, 32, 42, 32, 98] = (3, 1) := by decide +kernel
    unfold tok
    rw [h, if_neg (by decide), if_neg (by decide), if_pos rfl, show ([50, 32, 42, 32, 98] : List UInt8).take (3, 1).2 = [50] from rfl, dpv_2])]
  show Option.map _ (Option.map _ (Option.map _ (lexL vz dpv [32, 42, 32, 98] 5))) = _
  rw [lex_blank _ _ _ (by decide), lex_Q _ _ 42 0 0 Q4 (by decide) (by
    have h : lxt [42, 32, 98] = (2, 1) := by decide +kernel
    unfold tok; rw [h]; rfl)]
  show Option.map _ (Option.map _ (Option.map _ (Option.map _ (lexL vz dpv [32, 98] 7)))) = _
  rw [lex_blank _ _ _ (by decide), lex_Q _ _ 98 0 0 Q5 (by decide) (by
    have h : lxt [98] = (1, 1) := by decide +kernel
    unfold tok; rw [h]; rfl)]
  rfl

theorem rt_one (c : UInt8) (x : Ti) (y : Tok) (hx : x.t = [c]) (h : isB c = false) (hk : tok vz dpv [c] 0 = some y) (hy : y.t = [c]) (hs : sameT (tin y) ⟨x.k, x.t, x.v, 0⟩ = true) : rtok x = true := by
  unfold rtok
  rw [hx, if_pos (by simp)]
  rw [lex_tok _ _ _ h, hk]
  have e : (lexL vz dpv (([c] : List UInt8).drop y.t.length) (0 + y.t.length)).map (y :: ·) = some [y] := by rw [hy]; rfl
  show rt1 ((lexL vz dpv (([c] : List UInt8).drop y.t.length) (0 + y.t.length)).map (y :: ·)) x = true
  rw [e]
  exact hs
theorem rt_Q1 : rtok (tin Q1) = true := rt_one 97 _ ⟨1, [97], vz, 0⟩ rfl (by decide) (by
    have h : lxt [97] = (1, 1) := by decide +kernel
    unfold tok; rw [h]; rfl) rfl rfl
theorem rt_Q2 : rtok (tin Q2) = true := rt_one 43 _ ⟨2, [43], vz, 0⟩ rfl (by decide) (by
    have h : lxt [43] = (2, 1) := by decide +kernel
    unfold tok; rw [h]; rfl) rfl rfl
theorem rt_Q3 : rtok (tin Q3) = true := rt_one 50 _ ⟨3, [50], ⟨1, 2, 0, []⟩, 0⟩ rfl (by decide) (by
    have h : lxt [50] = (3, 1) := by decide +kernel
    unfold tok
    rw [h, if_neg (by decide), if_neg (by decide), if_pos rfl, show ([50] : List UInt8).take (3, 1).2 = [50] from rfl, dpv_2]) rfl rfl
theorem rt_Q4 : rtok (tin Q4) = true := rt_one 42 _ ⟨2, [42], vz, 0⟩ rfl (by decide) (by
    have h : lxt [42] = (2, 1) := by decide +kernel
    unfold tok; rw [h]; rfl) rfl rfl
theorem rt_Q5 : rtok (tin Q5) = true := rt_one 98 _ ⟨1, [98], vz, 0⟩ rfl (by decide) (by
    have h : lxt [98] = (1, 1) := by decide +kernel
    unfold tok; rw [h]; rfl) rfl rfl

/-- The known tokens, as they are looked at. -/
def nxQ (k : Nat) : Ti := match [tin Q1, tin Q2, tin Q3, tin Q4, tin Q5][k]? with | some x => x | none => tz
theorem nx_Q : nxt ([Q1, Q2, Q3, Q4, Q5].map tin) = nxQ := by
  funext k
  match k with
  | 0 => show (if rtok (tin Q1) = true then tin Q1 else tz) = _; rw [rt_Q1]; rfl
  | 1 => show (if rtok (tin Q2) = true then tin Q2 else tz) = _; rw [rt_Q2]; rfl
  | 2 => show (if rtok (tin Q3) = true then tin Q3 else tz) = _; rw [rt_Q3]; rfl
  | 3 => show (if rtok (tin Q4) = true then tin Q4 else tz) = _; rw [rt_Q4]; rfl
  | 4 => show (if rtok (tin Q5) = true then tin Q5 else tz) = _; rw [rt_Q5]; rfl
  | k + 5 => rfl
/-- What the known texts tell as values. -/
def vQ (t : List UInt8) : Option Va := if t = [50] then some ⟨1, 2, 0, []⟩ else none
/-- The known nodes. -/
abbrev nQ : List Nd := [⟨2, [], [97], vz0, 0⟩, ⟨1, [], [], ⟨1, 2, 0, []⟩, 0⟩, ⟨2, [], [98], vz0, 0⟩, ⟨6, [], [], vz0, 0⟩, ⟨9, [], [], vz0, 0⟩]
theorem rd_Q : rdx nxQ vQ 6 47 .ex 0 [] 0 = (0, 5, nQ) := by
  rfl
end Go.Proofs.YtclhmmgdhagloaaGreatDoor

namespace Go.Proofs.YtclhmmgdhagloaaGreatDoor
open Go.RowKit Go.Shelf
attribute [local go_sem] cell?_more frozen?_more setCell_more more_lt more_more more_drew more_drewN setCell_drewN alloc_drewN

set_option maxHeartbeats 2000000 in
theorem vtold_no (t : List UInt8) (w : World) (hl : t.length ≤ 140737488351232) (h39 : (t.head? == some 39) = false) (h60 : (t.head? == some 60) = false) (n1 : ((ByteArray.mk t.toArray).toList == [110, 117, 108, 108]) = false) (n2 : ((ByteArray.mk t.toArray).toList == [116, 114, 117, 101]) = false) (n3 : ((ByteArray.mk t.toArray).toList == [102, 97, 108, 115, 101]) = false)
    (hPR : PR (trimP t) = none) : Calls Tryz.prog 197 #[.string ⟨t.toArray⟩] w fun e w' => (∃ v, e = .returned (.tuple #[vv v, .bool false])) ∧ Below w.heap.size w w' := by
  have H39 : ∀ W, Calls Tryz.prog 245 #[.string ⟨t.toArray⟩, .string ⟨#[39]⟩] W fun e w' => e = .returned (.bool (t.head? == some 39)) ∧ W = w' := fun W => prefix_any ⟨t.toArray⟩ 39 W (by show t.length ≤ _; omega)
  have H60 : ∀ W, Calls Tryz.prog 245 #[.string ⟨t.toArray⟩, .string ⟨#[60]⟩] W fun e w' => e = .returned (.bool (t.head? == some 60)) ∧ W = w' := fun W => prefix_any ⟨t.toArray⟩ 60 W (by show t.length ≤ _; omega)
  have N := fun W => toldNumber_any t W hl
  have hf : (tnv t).2 = false := by unfold tnv; rw [hPR]
  rw [h60] at H60
  rw [h39] at H39
  rw [hf] at N
  rcases hx : (tnv t).1 with ⟨k, n, m, b⟩
  rw [hx] at N
  have N' : ∀ W, Calls Tryz.prog 248 #[.string ⟨t.toArray⟩] W fun e w' => e = .returned (.tuple #[va k n m ⟨b.toArray⟩, .bool false]) ∧ Below W.heap.size W w' := N
  have HE : Hid (∃ v, Ending.returned (.tuple #[va k n m ⟨b.toArray⟩, .bool false]) = .returned (.tuple #[vv v, .bool false])) := ⟨⟨k, n, m, b⟩, rfl⟩
  clear N hx hf hPR h39 h60 hl
  generalize ByteArray.mk t.toArray = B at *
  generalize ByteArray.mk b.toArray = C at *
  go_enter Tryz.func197, Tryz.ntmps197
  go_wp2_with (first
    | (go_at_call 245; with_reducible refine (H39 _).mono ?_; rintro e w' ⟨rfl, rfl⟩)
    | (go_at_call 245; with_reducible refine (H60 _).mono ?_; rintro e w' ⟨rfl, rfl⟩)
    | (go_at_call 248; refine (N' _).mono ?_; rintro e w1 ⟨rfl, b1⟩; have bx : Box w1 w.heap.size ⟨0, 0, 0, []⟩ := (Box.new w 0 0 0 []).later b1; obtain ⟨c0, c1, c2, c3⟩ := bx.at4; have f0 := bx.free 0; have f1 := bx.free 1; have f2 := bx.free 2; have f3 := bx.free 3; have lt1 := bx.lt; clear bx))
  refine bodyPost_ret_by (v := .tuple #[va k n m C, .bool false]) ?_ rfl ⟨HE.out, ?_⟩
  · simp [results, Tryz.results197, go_sem, c0, c1, c2, c3]
  · have b0 : Below w.heap.size w w1 := ((Below.refl _ w).alloc (Nat.le_refl _) _).trans (b1.mono (by simp))
    exact (((b0.setCell (p := ⟨w.heap.size, 0, none⟩) (Nat.le_refl _) _).setCell (p := ⟨w.heap.size, 1, none⟩) (Nat.le_refl _) _).setCell (p := ⟨w.heap.size, 2, none⟩) (Nat.le_refl _) _).setCell (p := ⟨w.heap.size, 3, none⟩) (Nat.le_refl _) _

set_option maxHeartbeats 2000000 in
theorem vparse_no (t : List UInt8) (w : World) (hl : t.length ≤ 140737488351232) (h39 : (t.head? == some 39) = false) (h60 : (t.head? == some 60) = false) (n1 : ((ByteArray.mk t.toArray).toList == [110, 117, 108, 108]) = false) (n2 : ((ByteArray.mk t.toArray).toList == [116, 114, 117, 101]) = false) (n3 : ((ByteArray.mk t.toArray).toList == [102, 97, 108, 115, 101]) = false)
    (hPR : PR (trimP t) = none) : Calls Tryz.prog 134 #[.string ⟨t.toArray⟩] w fun e w' => e = .returned (dpR none) ∧ Below w.heap.size w w' := by
  have T := fun W => vtold_no t W hl h39 h60 n1 n2 n3 hPR
  show Calls _ _ _ _ fun e w' => e = .returned (.tuple #[va 0 0 0 ⟨#[]⟩, .int .i64 21]) ∧ _
  clear n1 n2 n3 h39 h60 hPR hl
  generalize ByteArray.mk t.toArray = B at *
  go_enter Tryz.func134, Tryz.ntmps134
  go_wp2_with fail
  refine (T _).mono ?_
  rintro e w1 ⟨⟨⟨k, n, m, b⟩, rfl⟩, b1⟩
  have bx : Box w1 w.heap.size ⟨0, 0, 0, []⟩ := (Box.new w 0 0 0 []).later b1
  have B1 : Below w.heap.size w w1 := ((Below.refl _ w).alloc (Nat.le_refl _) _).trans (b1.mono (by simp))
  have s1 := B1.size
  obtain ⟨c0, c1, c2, c3⟩ := bx.at4
  have f0 := bx.free 0
  have f1 := bx.free 1
  have f2 := bx.free 2
  have f3 := bx.free 3
  have lt1 := bx.lt
  clear b1 bx
  go_wp2
  refine bodyPost_ret_by (v := .tuple #[va 0 0 0 ⟨#[]⟩, .int .i64 21]) ?_ rfl ⟨rfl, ?_⟩
  · simp [results, Tryz.results134, go_sem, c0, c1, c2, c3, lt1]
  · refine Below.alloc ?_ (by simp; omega) _
    have B2 := B1
    exact (((B2.setCell (p := ⟨w.heap.size, 0, none⟩) (Nat.le_refl _) _).setCell (p := ⟨w.heap.size, 1, none⟩) (Nat.le_refl _) _).setCell (p := ⟨w.heap.size, 2, none⟩) (Nat.le_refl _) _).setCell (p := ⟨w.heap.size, 3, none⟩) (Nat.le_refl _) _
end Go.Proofs.YtclhmmgdhagloaaGreatDoor

namespace Go.Proofs.YtclhmmgdhagloaaGreatDoor
open Go.RowKit Go.Shelf
attribute [local go_sem] cell?_more frozen?_more setCell_more more_lt more_more more_drew more_drewN setCell_drewN alloc_drewN

theorem no1 (c : UInt8) (w : World) (h39 : (some c == some (39 : UInt8)) = false) (h60 : (some c == some (60 : UInt8)) = false) (hPR : PR (trimP [c]) = none) : Calls Tryz.prog 134 #[.string ⟨[c].toArray⟩] w fun e w' => e = .returned (dpR none) ∧ Below w.heap.size w w' :=
  vparse_no [c] w (by simp) h39 h60 (by rw [ByteArray.toList_eq]; simp) (by rw [ByteArray.toList_eq]; simp) (by rw [ByteArray.toList_eq]; simp) hPR
theorem pars_Q (w : World) (hT : Tabs w) (hP : Ptab w) : Pars w ([Q1, Q2, Q3, Q4, Q5].map tin) vQ := by
  refine ⟨rfl, fun k W hW => ?_⟩
  rw [nx_Q]
  match k with
  | 0 => exact no1 97 W (by decide) (by decide) (by decide +kernel)
  | 1 => exact no1 43 W (by decide) (by decide) (by decide +kernel)
  | 2 =>
    have := vparse_any [50] W (by simp) ⟨50, [], rfl, Or.inr (by decide)⟩ (hT.later hW) (hP.later hW)
    rw [dpv_2] at this
    exact this
  | 3 => exact no1 42 W (by decide) (by decide) (by decide +kernel)
  | 4 => exact no1 98 W (by decide) (by decide) (by decide +kernel)
  | k + 5 => exact vparse_no [] W (by simp) rfl rfl (by rw [ByteArray.toList_eq]; rfl) (by rw [ByteArray.toList_eq]; rfl) (by rw [ByteArray.toList_eq]; rfl) (by decide +kernel)

theorem dep_Q : depN mayN nQ = 3 := by decide +kernel
theorem prt_Q : prtN pv nQ = [40, 97, 32, 43, 32, 40, 50, 32, 42, 32, 98, 41, 41] := by
  unfold prtN
  rw [if_pos (by rw [dep_Q]; decide)]
  have e : runT pv nQ [] = [parT [[97], [43], parT [pv ⟨1, 2, 0, []⟩, [42], [98]]]] := rfl
  rw [e, pv_2]
  rfl
theorem col_Q : colsL nQ [] = [⟨2, [], [97], vz0, 0⟩, ⟨2, [], [98], vz0, 0⟩] := rfl
theorem sh_Q : shN nQ := by
  intro x hx
  simp at hx
  rcases hx with rfl | rfl | rfl | rfl | rfl <;> simp

theorem parse_Q (w : World) (hT : Tabs w) (hP : Ptab w) (hS : Sg w) :
    Calls Tryz.prog 20 #[.string ⟨#[97, 32, 43, 32, 50, 32, 42, 32, 98]⟩] w fun e w' => (∃ v, e = .returned (.tuple #[v, .int .i64 0]) ∧ Nowns w' w.heap.size v nQ) ∧ Below w.heap.size w w' := by
  have := parse6_any Q0 [Q1, Q2, Q3, Q4, Q5] vQ w (by simp) hT hP hS lex_Q0 (by simp) (fun W h => pars_Q W (hT.later h) (hP.later h)) (0, 5, nQ) (by rw [nx_Q]; exact rd_Q) sh_Q (by simp)
  refine this.mono fun e w' ⟨h, hb⟩ => ⟨?_, hb⟩
  unfold parseP at h
  rw [if_pos rfl, if_pos (by rw [dep_Q]; decide), if_neg (by simp)] at h
  exact h
theorem print_Q (ao : Option Addr) (cap : Nat) (w : World) (hv : Nw w ao nQ) (hT : Tabs w) (hP : Ptab w) (hS : Sg w) :
    Calls Tryz.prog 16 #[.slice ao 5 cap] w fun e w' => e = .returned (.string ⟨#[40, 97, 32, 43, 32, 40, 50, 32, 42, 32, 98, 41, 41]⟩) ∧ Below w.heap.size w w' := by
  have := print_walk pv 100 ao cap nQ w hv (by simp) sh_Q hT hS (by simp) (fun _ x hx => by
    simp at hx
    rcases hx with rfl | rfl | rfl | rfl | rfl
    · exact ⟨by simp, by simp, by show (pv vz0).length ≤ 100; decide +kernel⟩
    · exact ⟨by simp, by simp, by rw [pv_2]; simp⟩
    · exact ⟨by simp, by simp, by show (pv vz0).length ≤ 100; decide +kernel⟩
    · exact ⟨by simp, by simp, by show (pv vz0).length ≤ 100; decide +kernel⟩
    · exact ⟨by simp, by simp, by show (pv vz0).length ≤ 100; decide +kernel⟩) (fun _ x hx h1 W hW => by
    simp at hx
    rcases hx with rfl | rfl | rfl | rfl | rfl
    · simp at h1
    · exact vprint_any ⟨1, 2, 0, []⟩ W (hT.later hW) (hP.later hW) (Or.inl rfl) (by simp)
    · simp at h1
    · simp at h1
    · simp at h1)
  rw [prt_Q] at this
  exact this
end Go.Proofs.YtclhmmgdhagloaaGreatDoor

namespace Go.Proofs.YtclhmmgdhagloaaGreatDoor
open Go.RowKit Go.Shelf
attribute [local go_sem] cell?_more frozen?_more setCell_more more_lt more_more more_drew more_drewN setCell_drewN alloc_drewN

theorem num6_any (n : Int) (w : World) : Calls Tryz.prog 21 #[.int .i64 n] w fun e w' => e = .returned (.int .i64 n) ∧ w = w' := by
  go_enter Tryz.func21, Tryz.ntmps21
  go_wp2
  go_ret
  exact ⟨rfl, rfl⟩

set_option maxRecDepth 20000 in
set_option maxHeartbeats 4000000 in
theorem knows6_any (w : World) (hT : Tabs w) (hP : Ptab w) (hS : Sg w) : Calls Tryz.prog 7 #[] w fun e w' => e = .returned (.bool true) ∧ Below w.heap.size w w' := by
  have PQ := parse_Q w hT hP hS
  have PR6 : Hid (∀ W ao cap, Below w.heap.size w W → Nw W ao nQ → Calls Tryz.prog 16 #[.slice ao 5 cap] W fun e w' => e = .returned (.string ⟨#[40, 97, 32, 43, 32, 40, 50, 32, 42, 32, 98, 41, 41]⟩) ∧ Below W.heap.size W w') := fun W ao cap h hv => print_Q ao cap W hv (hT.later h) (hP.later h) (hS.later h)
  have DQ : Hid (∀ W ao cap, Below w.heap.size w W → Nw W ao nQ → Calls Tryz.prog 11 #[.slice ao 5 cap] W fun e w' => e = .returned (.int .i64 3) ∧ Below W.heap.size W w') := fun W ao cap h hv => by
    have := depth_of ao cap nQ W hv (by simp) sh_Q (hT.later h)
    rw [dep_Q] at this
    exact this
  have CQ : Hid (∀ W ao cap, Below w.heap.size w W → Nw W ao nQ → Calls Tryz.prog 14 #[.slice ao 5 cap] W fun e w' => (∃ a c, e = .returned (.slice a 2 c)) ∧ Below W.heap.size W w') := fun W ao cap h hv => by
    have := columns_any ao cap nQ W hv (by simp) sh_Q (hT.later h)
    rw [if_pos (by rw [dep_Q]; decide), col_Q] at this
    refine this.mono fun e w' ⟨⟨v, he, hn⟩, hb⟩ => ⟨?_, hb⟩
    obtain ⟨a, c, rfl, _⟩ := hn.lies
    exact ⟨a, c, he⟩
  have N6 := fun W => num6_any 0 W
  clear hT hP hS
  go_enter Tryz.func7, Tryz.ntmps7
  go_wp2_with (first
    | (go_at_call 20; refine PQ.mono ?_; rintro e w1 ⟨⟨v, rfl, ho⟩, b1⟩; obtain ⟨ao, cap, rfl, hnw⟩ := ho.lies; obtain ⟨b, off, rfl, hc⟩ := hnw (by simp); have c4 := (hc 4 (by simp)).1; have hg := (hc 4 (by simp)).lt; simp only [List.getElem_cons_succ, List.getElem_cons_zero] at c4 hg)
    | (go_at_call 21; refine (N6 _).mono ?_; rintro e w' ⟨rfl, rfl⟩))
  have RE := fun W => reserved_any ⟨#[97, 110, 100]⟩ W
  rw [show resL (ByteArray.mk #[97, 110, 100]).toList = true by rw [ByteArray.toList_eq]; decide +kernel] at RE
  have P1 := PR6.out w1 _ cap b1 hnw
  refine P1.mono ?_
  rintro e w2 ⟨rfl, b2⟩
  have B2 := below_trans b1 b2
  have D1 := DQ.out w2 _ cap B2 (hnw.later b2)
  have C1 : Hid (∀ W, Below w2.heap.size w2 W → _) := fun W h => CQ.out W (some ⟨b, off, none⟩) cap (below_trans B2 h) ((hnw.later b2).later h)
  clear hc ho hnw PQ P1
  go_wp2_with (first
    | (go_at_call 11; refine D1.mono ?_; rintro e w3 ⟨rfl, b3⟩; have C2 := C1.out _ b3)
    | (go_at_call 14; refine C2.mono ?_; rintro e w4 ⟨⟨ca, cc, rfl⟩, b4⟩)
    | (go_at_call 18; refine (RE _).mono ?_; rintro e w' ⟨rfl, rfl⟩))
  go_ret
  exact ⟨rfl, below_trans (below_trans B2 b3) b4⟩
end Go.Proofs.YtclhmmgdhagloaaGreatDoor

namespace Go.Proofs.YtclhmmgdhagloaaGreatDoor

end Go.Proofs.YtclhmmgdhagloaaGreatDoor

namespace Go.Proofs.YtclhmmgdhagloaaGreatDoor
open Go.RowKit Go.Shelf
attribute [local go_sem] cell?_more frozen?_more setCell_more more_lt more_more more_drew more_drewN setCell_drewN alloc_drewN

set_option maxHeartbeats 2000000 in
theorem boolText_any (n m : Int) (B : ByteArray) (w : World) : Calls Tryz.prog 119 #[va 4 n m B] w fun e w' => e = .returned (.string ⟨(if n = 1 then [116, 114, 117, 101] else [102, 97, 108, 115, 101] : List UInt8).toArray⟩) ∧ Grew w w' := by
  by_cases h : n = 1
  · subst h
    rw [if_pos rfl]
    go_enter Tryz.func119, Tryz.ntmps119
    go_wp2
    go_ret
    exact ⟨rfl, by repeat (first | assumption | exact Grew.refl _ | apply Grew.drew | apply Grew.drewN | apply Grew.alloc | apply Grew.more)⟩
  · rw [if_neg h]
    have h' : (n == 1) = false := by rw [beq_eq_false_iff_ne]; exact h
    go_enter Tryz.func119, Tryz.ntmps119
    go_wp2
    go_ret
    exact ⟨rfl, by repeat (first | assumption | exact Grew.refl _ | apply Grew.drew | apply Grew.drewN | apply Grew.alloc | apply Grew.more)⟩

/-- What Print answers of a value that a literal may have. -/
def pvl (v : Va) : List UInt8 := if v.k = 1 ∨ v.k = 2 ∨ v.k = 3 then pv v else if vr v then (if v.k = 4 then (if v.n = 1 then [116, 114, 117, 101] else [102, 97, 108, 115, 101]) else [110, 117, 108, 108]) else []

set_option maxHeartbeats 2000000 in
theorem vprint_lit (v : Va) (w : World) (hT : Tabs w) (hP : Ptab w) (hl : litV v = true) (hn : -9223372036854775808 ≤ v.n ∧ v.n ≤ 9223372036854775807) (hk : v.k = 0 ∨ v.k = 1 ∨ v.k = 2 ∨ v.k = 3 ∨ v.k = 4) :
    Calls Tryz.prog 62 #[vv v] w fun e w' => e = .returned (.string ⟨(pvl v).toArray⟩) ∧ Below w.heap.size w w' := by
  unfold pvl
  by_cases h123 : v.k = 1 ∨ v.k = 2 ∨ v.k = 3
  · rw [if_pos h123]
    exact vprint_any v w hT hP h123 hn
  rw [if_neg h123]
  obtain ⟨k, n, m, b⟩ := v
  simp only at hk h123 ⊢
  have hvr : vr ⟨k, n, m, b⟩ = true := by unfold litV at hl; rw [Bool.and_eq_true] at hl; exact hl.1
  have R : ∀ W, Below w.heap.size w W → Calls Tryz.prog 75 #[va k n m ⟨b.toArray⟩] W fun e w' => e = .returned (.bool true) ∧ Below W.heap.size W w' := fun W h => by
    have := vright_any k n m ⟨b.toArray⟩ W (hT.later h)
    have e : (vr ⟨k, n, m, b⟩) = true := hvr
    refine this.mono fun e' w' ⟨h1, h2⟩ => ⟨?_, h2⟩
    rw [h1]
    exact congrArg (fun z => Ending.returned (Value.bool z)) e
  rw [if_pos hvr]
  have B0 := Box.new w k n m b
  have A0 := (Below.refl w.heap.size w).alloc (Nat.le_refl _) (.cells #[.int .i64 k, .int .i64 n, .int .i64 m, .string ⟨b.toArray⟩] 42)
  clear hT hP hl hvr hn
  have hk2 : k = 0 ∨ k = 4 := by omega
  clear hk h123
  rcases hk2 with rfl | rfl
  · rw [if_neg (by decide)]
    go_enter Tryz.func62, Tryz.ntmps62
    go_wp2_with (go_at_call 75; refine (R _ A0).mono ?_; rintro e w1 ⟨rfl, b1⟩; have bx := B0.later b1; obtain ⟨c0, c1, c2, c3⟩ := bx.at4; have lt1 := bx.lt)
    go_ret
    exact ⟨rfl, A0.trans (b1.mono (by simp))⟩
  · rw [if_pos rfl]
    have BT := fun W => boolText_any n m ⟨b.toArray⟩ W
    generalize (if n = 1 then [116, 114, 117, 101] else [102, 97, 108, 115, 101] : List UInt8) = T at *
    go_enter Tryz.func62, Tryz.ntmps62
    go_wp2_with (first
      | (go_at_call 75; refine (R _ A0).mono ?_; rintro e w1 ⟨rfl, b1⟩; have bx := B0.later b1; obtain ⟨c0, c1, c2, c3⟩ := bx.at4; have lt1 := bx.lt)
      | (go_at_call 119; refine (BT _).mono ?_; rintro e w2 ⟨rfl, g2⟩))
    go_ret
    exact ⟨rfl, below_trans (A0.trans (b1.mono (by simp))) g2.below⟩
end Go.Proofs.YtclhmmgdhagloaaGreatDoor

namespace Go.Proofs.YtclhmmgdhagloaaGreatDoor

theorem may_all (l : List Nd) : ∀ st r, runD mayN l st = some r → ∀ x ∈ l, mayN x = true := by
  induction l with
  | nil => intro st r _ x hx; simp at hx
  | cons y l ih =>
    intro st r h x hx
    obtain ⟨h1, _, st', _, h2⟩ := runD_some h
    rcases List.mem_cons.1 hx with rfl | hx
    · exact h1
    · exact ih st' r h2 x hx
theorem dep_may {l : List Nd} (h : 0 < depN mayN l) : ∀ x ∈ l, mayN x = true := by
  obtain ⟨_, d, hr⟩ := depN_some h
  exact may_all l [] [d] hr
theorem name_len {l : List UInt8} (h : nameL l = true) : l.length ≤ 32 := by
  unfold nameL wordL at h
  simp only [Bool.and_eq_true, decide_eq_true_eq] at h
  exact h.1.2.2
theorem may_parts {x : Nd} (h : mayN x = true) : x.t.length ≤ 32 ∧ x.n.length ≤ 32 ∧ (x.o = 1 → litV x.v = true) ∧ (x.o ≠ 1 → x.v = vz0) := by
  unfold mayN at h
  rw [Bool.and_eq_true, sameN_eq] at h
  obtain ⟨h1, h2⟩ := h
  unfold fitN at h2
  unfold namedN at h1
  obtain ⟨xo, xt, xn, xv, xa⟩ := x
  simp only at h1 h2 ⊢
  by_cases c1 : xo = 1
  · rw [if_pos c1] at h1 h2
    simp only [Nd.mk.injEq] at h1
    obtain ⟨_, rfl, rfl, _, _⟩ := h1
    exact ⟨by simp, by simp, fun _ => h2, fun h => absurd c1 h⟩
  rw [if_neg c1] at h1 h2
  by_cases c2 : xo = 2
  · rw [if_pos c2] at h1 h2
    simp only [Nd.mk.injEq] at h1
    obtain ⟨_, _, _, rfl, _⟩ := h1
    rw [Bool.and_eq_true] at h2
    refine ⟨?_, name_len h2.1, fun h => absurd h c1, fun _ => rfl⟩
    rcases Bool.or_eq_true_iff.1 h2.2 with h | h
    · have : xt = [] := by simpa using h
      rw [this]; simp
    · exact name_len h
  rw [if_neg c2] at h1 h2
  by_cases c3 : xo = 19
  · rw [if_pos c3] at h1 h2
    simp only [Nd.mk.injEq] at h1
    obtain ⟨_, rfl, _, rfl, _⟩ := h1
    rw [Bool.and_eq_true] at h2
    exact ⟨by simp, name_len h2.1, fun h => absurd h c1, fun _ => rfl⟩
  rw [if_neg c3] at h1
  simp only [Nd.mk.injEq] at h1
  obtain ⟨_, rfl, rfl, rfl, _⟩ := h1
  exact ⟨by simp, by simp, fun h => absurd h c1, fun _ => rfl⟩
theorem dtext_len (n : Int) (s : Nat) (hs : s ≤ 6) (h0 : -9223372036854775808 ≤ n) (h1 : n ≤ 9223372036854775807) : (dtext n s).length ≤ 100 := by
  have := digs_len 19 n.natAbs (by have : (10 : Nat) ^ (19 + 1) = 100000000000000000000 := by decide
                                   omega)
  have h1 := pad_len s (digs n.natAbs)
  have h0 := pad_len 0 (digs n.natAbs)
  unfold dtext
  split <;> split <;> simp [List.length_take] <;> omega
theorem pvl_len (v : Va) (hr : litV v = true) (h0 : -9223372036854775808 ≤ v.n) (h1 : v.n ≤ 9223372036854775807) : (pvl v).length ≤ 1000 := by
  have hvr : vr v = true := by unfold litV at hr; rw [Bool.and_eq_true] at hr; exact hr.1
  have hok := (vr_iff v).1 hvr
  obtain ⟨k, n, m, b⟩ := v
  unfold pvl pv ptext dpt
  simp only [hvr, if_true] at hok ⊢
  have a1 := dtext_len n 0 (by omega) h0 h1
  have ab := dbl_len b
  unfold vok at hok
  simp only at hok h0 h1
  split
  · rename_i hk
    split
    · omega
    split
    · rename_i h2
      have a2 := dtext_len n m.toNat (by omega) h0 h1
      rw [List.length_append]
      split <;> simp <;> omega
    · unfold quoL
      simp only [List.length_cons, List.length_append, List.length_nil]
      omega
  · split
    · split <;> simp
    · simp
theorem pvl_z : (pvl vz0).length ≤ 1000 := by decide +kernel
theorem pv_bounds {l : List Nd} (h : 0 < depN mayN l) (hi : ∀ x ∈ l, -9223372036854775808 ≤ x.v.n ∧ x.v.n ≤ 9223372036854775807) : ∀ x ∈ l, x.t.length ≤ 1000 ∧ x.n.length ≤ 1000 ∧ (pvl x.v).length ≤ 1000 := by
  intro x hx
  obtain ⟨h1, h2, h3, h4⟩ := may_parts (dep_may h x hx)
  refine ⟨by omega, by omega, ?_⟩
  by_cases ho : x.o = 1
  · exact pvl_len x.v (h3 ho) (hi x hx).1 (hi x hx).2
  · rw [h4 ho]; exact pvl_z
theorem colsL_len (l : List Nd) : ∀ out, (colsL l out).length ≤ out.length + l.length := by
  induction l with
  | nil => intro out; show out.length ≤ _; omega
  | cons x l ih =>
    intro out
    have := ih (if x.o = 2 ∧ memN out x = false then out ++ [⟨2, x.t, x.n, vz0, 0⟩] else out)
    show (colsL l (if x.o = 2 ∧ memN out x = false then out ++ [⟨2, x.t, x.n, vz0, 0⟩] else out)).length ≤ _
    have h2 : (if x.o = 2 ∧ memN out x = false then out ++ [⟨2, x.t, x.n, vz0, 0⟩] else out).length ≤ out.length + 1 := by
      split <;> simp
    rw [List.length_cons]
    omega
end Go.Proofs.YtclhmmgdhagloaaGreatDoor

namespace Go.Proofs.YtclhmmgdhagloaaGreatDoor
open Go.RowKit Go.Shelf
attribute [local go_sem] cell?_more frozen?_more setCell_more more_lt more_more more_drew more_drewN setCell_drewN alloc_drewN

end Go.Proofs.YtclhmmgdhagloaaGreatDoor

namespace Go.Proofs.YtclhmmgdhagloaaGreatDoor
open Go.ChangeShapes Go.WideShapes Go.ChangeAt Go.WideMaps Go.WideElems Go.RowKit Go.Shelf Go.Lib

theorem ptab6_of {W : World} (h : VarReads Tryz.prog W "internal/strconv.uint64pow10" Rows.laid_internal_strconv_uint64pow10) : Ptab W := by
  obtain ⟨g', t', cs, fuel, p, hg', ht', hvar, hd⟩ := h
  have hg : Tryz.prog.globalNamed "internal/strconv.uint64pow10" = some 7 := by kernel_rfl
  have hty : (Tryz.prog.globals[7]?).map (·.type) = some 279 := by kernel_rfl
  obtain rfl := Option.some.inj (hg.symm.trans hg')
  obtain rfl := Option.some.inj (hty.symm.trans ht')
  have hd' : DataW.trod (fun _ => ()) Tryz.prog W 0 (fun _ => true) false fuel 279 cs.toList = some (Lib.tabData .u64 Lib.pow10Tab, p) := by
    rw [hd, show Rows.laid_internal_strconv_uint64pow10 = Lib.tabData (H := Unit) .u64 Lib.pow10Tab by kernel_rfl]
  unfold Ptab Lib.TabIs
  rw [hvar, ← cells_of_tab Tryz.underlying279 Tryz.underlying161 (by kernel_rfl) (by kernel_rfl) hd']

/-- An array of texts that reads as these holds them, cell for cell. -/
theorem cells_of_texts {H : Type} {enc : TypeId × Value → H} {P : Program} {w : World} {base : Nat} {sp : Nat → Bool} {held : Bool} {fuel : Nat} {t e : TypeId} {n : Nat} {cs : List Value} {ss : List (List UInt8)} {p : List MemPlace}
    (ht : P.underlying t = some (.array n e)) (he : P.underlying e = some .string) (hce : P.cellsOf e = 1) (hct : P.cellsOf t = n)
    (h : DataW.trod enc P w base sp held fuel t cs = some (.agg (ss.map fun s => .lit (.string s)), p)) : cs = ss.map fun s => Value.string ⟨s.toArray⟩ := by
  cases fuel with
  | zero => simp [DataW.trod] at h
  | succ fuel =>
    simp only [DataW.trod, ht, hce, hct, Nat.mul_one] at h
    split at h
    · rename_i hl
      obtain ⟨xs, hm, hx⟩ := Option.map_eq_some_iff.1 h
      have hxs : xs.map (·.1) = ss.map fun s => (DataW.lit (.string s) : DataW H) := by
        have := congrArg Prod.fst hx
        simpa using this
      have hxl : xs.length = n := by simpa using Lib.mapM_length hm
      have hzl : ss.length = n := by
        have := congrArg List.length hxs
        simp at this
        omega
      apply List.ext_getElem?
      intro i
      by_cases hi : i < n
      · obtain ⟨b, hb, hf⟩ := mapM_at hm i i (by simp [hi])
        obtain ⟨z, hc, rfl, _⟩ := DataW.trod_string he hf
        have h1 : cs[i]? = some (.string z) := by
          have := congrArg (·[0]?) hc
          simpa [List.getElem?_take, List.getElem?_drop] using this
        have h2 : (xs.map (·.1))[i]? = some (DataW.lit (.string z.data.toList) : DataW H) := by simp [hb]
        rw [hxs] at h2
        simp only [List.getElem?_map, Option.map_eq_some_iff, DataW.lit.injEq, Lit.string.injEq] at h2
        obtain ⟨z', hz', rfl⟩ := h2
        simp [h1, hz']
      · rw [List.getElem?_eq_none (by omega), List.getElem?_eq_none (by simp; omega)]
    · cases h

theorem sg_of {W : World} (h : VarReads Tryz.prog W "longstop/expr.signs" Rows.laid_longstop_expr_signs) : Sg W := by
  obtain ⟨g', t', cs, fuel, p, hg', ht', hvar, hd⟩ := h
  have hg : Tryz.prog.globalNamed "longstop/expr.signs" = some 0 := by kernel_rfl
  have hty : (Tryz.prog.globals[0]?).map (·.type) = some 98 := by kernel_rfl
  obtain rfl := Option.some.inj (hg.symm.trans hg')
  obtain rfl := Option.some.inj (hty.symm.trans ht')
  have hd' : DataW.trod (fun _ => ()) Tryz.prog W 0 (fun _ => true) false fuel 98 cs.toList = some (.agg (((List.range 19).map sgn).map fun s => .lit (.string s)), p) := by
    rw [hd, show (Rows.laid_longstop_expr_signs : DataW Unit) = .agg (((List.range 19).map sgn).map fun s => .lit (.string s)) by kernel_rfl]
  have hcs := cells_of_texts Tryz.underlying98 Tryz.underlying9 (by kernel_rfl) (by kernel_rfl) hd'
  intro i hi
  have hc := World.var?_cell hg hvar i
  rw [hc]
  have e : cs = (((List.range 19).map sgn).map fun s => Value.string ⟨s.toArray⟩).toArray := by
    rw [← Array.toArray_toList (xs := cs), hcs]
  rw [e]
  simp [hi]

end Go.Proofs.YtclhmmgdhagloaaGreatDoor

namespace Go.Proofs.YtclhmmgdhagloaaGreatDoor
open Go.RowKit Go.Shelf
attribute [local go_sem] cell?_more frozen?_more setCell_more more_lt more_more more_drew more_drewN setCell_drewN alloc_drewN

theorem res_drop (l : List UInt8) (k : Nat) (h : k < resW.length) : (resW.drop k).contains l = (resW[k] == l || (resW.drop (k + 1)).contains l) := by
  rw [List.drop_eq_getElem_cons h, List.contains_cons]
  congr 1
  rw [Bool.eq_iff_iff, beq_iff_eq, beq_iff_eq]
  exact ⟨fun h => h.symm, fun h => h.symm⟩

set_option maxRecDepth 20000 in
set_option maxHeartbeats 4000000 in
theorem rres_any (B : ByteArray) (w : World) : Calls Tryz.prog 19 #[.string B] w fun e w' => e = .returned (.bool (resL B.toList)) ∧ Below w.heap.size w w' := by
  obtain ⟨R, hR⟩ : ∃ R, R = resL B.toList := ⟨_, rfl⟩
  rw [← hR]
  have HR : Hid ((resW.drop 0).contains B.toList = R) := hR.symm
  clear hR
  have BX := Cbox.new w (resW.map fun t => Value.string ⟨t.toArray⟩).toArray 9
  have A1 : Below w.heap.size w (w.alloc (.cells (resW.map fun t => Value.string ⟨t.toArray⟩).toArray 9)) := (Below.refl _ _).alloc (Nat.le_refl _) _
  have HBX : Hid (Cbox (w.alloc (.cells (resW.map fun t => Value.string ⟨t.toArray⟩).toArray 9)) w.heap.size (resW.map fun t => Value.string ⟨t.toArray⟩).toArray 9) := BX
  have HB : Hid (Below w.heap.size w (w.alloc (.cells (resW.map fun t => Value.string ⟨t.toArray⟩).toArray 9))) := A1
  clear BX A1
  generalize hwx : w.alloc (.cells (resW.map fun t => Value.string ⟨t.toArray⟩).toArray 9) = wx at HBX HB
  simp only [resW, List.map_cons, List.map_nil] at hwx
  go_enter Tryz.func19, Tryz.ntmps19
  go_wp2
  try rw [hwx]
  clear hwx
  go_loopw [4] (fun r wr => ∃ k : Nat, r = .int .i64 (k : Int) ∧ k ≤ 41 ∧ wr = wx ∧ Hid ((resW.drop k).contains B.toList = R)) (fun r _ => 41 - (intOf r).toNat)
  case atStart => exact ⟨0, rfl, Nat.zero_le _, rfl, HR⟩
  case round =>
    obtain ⟨k, rfl, hk, rfl, hH⟩ := hrel
    by_cases hlt : k < 41
    · have hlt' : (k : Int) < 41 := by omega
      have k0 : (0 : Int) ≤ (k : Int) := by omega
      have hkl : k < resW.length := hlt
      have ck := HBX.out.at k
      rw [List.getElem?_toArray, List.getElem?_map, List.getElem?_eq_getElem hkl] at ck
      have gl := HBX.out.lt
      have hst := hH.out
      rw [res_drop _ _ hkl] at hst
      obtain ⟨S, hS⟩ : ∃ S : ByteArray, S = ⟨resW[k].toArray⟩ := ⟨_, rfl⟩
      have eS : S.toList = resW[k] := by rw [hS, ByteArray.toList_eq]
      have ck' : wr.cell? ⟨w.heap.size, k, none⟩ = some (.string S) := by rw [hS]; exact ck
      rw [← eS] at hst
      have HST : Hid ((S.toList == B.toList || (resW.drop (k + 1)).contains B.toList) = R) := hst
      clear ck hst hH HR hS eS
      by_cases he : S.toList = B.toList
      · have he' : (S.toList == B.toList) = true := by rw [beq_iff_eq]; exact he
        have HF : Hid (R = true) := by show R = true; rw [← HST.out, he', Bool.true_or]
        clear HST he
        go_wp2
        go_ret
        exact ⟨by have h := HF.out; subst h; rfl, HB.out⟩
      · have he' : (S.toList == B.toList) = false := by rw [beq_eq_false_iff_ne]; exact he
        have HF : Hid ((resW.drop (k + 1)).contains B.toList = R) := by show _ = R; rw [← HST.out, he', Bool.false_or]
        clear HST he
        go_wp2
        exact ⟨⟨k + 1, by rw [cst1], by omega, (by first | trivial | rfl), HF⟩, by simp [intOf]; omega⟩
    · have hlt' : ¬ (k : Int) < 41 := by omega
      have HF : Hid (R = false) := by
        show R = false
        rw [← hH.out, List.drop_eq_nil_of_le (by show 41 ≤ k; omega)]
        rfl
      clear hH HR
      go_wp2
      go_ret
      exact ⟨by have h := HF.out; subst h; rfl, HB.out⟩

theorem rfree_any (l : List UInt8) (w : World) (A : ∀ W, Calls Tryz.prog 125 #[.string ⟨l.toArray⟩] W fun e w' => e = .returned (.bool (wordL l)) ∧ W = w') : Calls Tryz.prog 67 #[.string ⟨l.toArray⟩] w fun e w' => e = .returned (.bool (nameL l)) ∧ Below w.heap.size w w' := by
  have B := fun W => rres_any ⟨l.toArray⟩ W
  have e : (ByteArray.mk l.toArray).toList = l := by rw [ByteArray.toList_eq]
  rw [e] at B
  clear e
  unfold nameL
  generalize ByteArray.mk l.toArray = S at *
  generalize wordL l = b at *
  cases b with
  | false =>
    clear B
    go_enter Tryz.func67, Tryz.ntmps67
    go_wp2_with (go_at_call 125; refine (A _).mono ?_; rintro e w' ⟨rfl, rfl⟩)
    go_ret
    exact ⟨rfl, Below.refl _ _⟩
  | true =>
    generalize resL l = r at *
    go_enter Tryz.func67, Tryz.ntmps67
    go_wp2_with (first
      | (go_at_call 125; refine (A _).mono ?_; rintro e w' ⟨rfl, rfl⟩)
      | (go_at_call 19; refine (B _).mono ?_; rintro e w' ⟨rfl, bb⟩))
    go_ret
    exact ⟨rfl, bb⟩

/-- What the document says of a literal is what the program says. -/
theorem lit_doc (v : Va) : litV v = (vr v && (!(v.k == 5) && !((v.k == 1 || v.k == 2) && decide (v.n < 0)))) := by
  unfold litV
  cases h : vr v with
  | false => rfl
  | true =>
    have hok := (vr_iff v).1 h
    unfold vok at hok
    rw [Bool.true_and, Bool.true_and, Bool.eq_iff_iff]
    simp only [Bool.and_eq_true, Bool.not_eq_true', beq_eq_false_iff_ne, decide_eq_true_eq, Bool.and_eq_false_iff, Bool.or_eq_false_iff, decide_eq_false_iff_not]
    constructor
    · rintro ⟨h1, h2⟩
      exact ⟨h1, .inr (by omega)⟩
    · rintro ⟨h1, h2⟩
      refine ⟨h1, ?_⟩
      rcases h2 with h2 | h2 <;> omega
end Go.Proofs.YtclhmmgdhagloaaGreatDoor

namespace Go.Proofs.YtclhmmgdhagloaaGreatDoor
open Go.RowKit Go.Shelf
attribute [local go_sem] cell?_more frozen?_more setCell_more more_lt more_more more_drew more_drewN setCell_drewN alloc_drewN

set_option maxHeartbeats 2000000 in
theorem rlit_any (v : Va) (w : World) : Calls Tryz.prog 66 #[vv v] w fun e w' => e = .returned (.bool (litV v)) ∧ Below w.heap.size w w' := by
  have A : ∀ W, Calls Tryz.prog 68 #[va v.k v.n v.m ⟨v.b.toArray⟩] W fun e w' => e = .returned (.bool (vr v)) ∧ Below W.heap.size W w' := fun W => rright_any v.k v.n v.m ⟨v.b.toArray⟩ W
  rw [lit_doc]
  obtain ⟨vk, vn, vm, vb⟩ := v
  generalize vr ⟨vk, vn, vm, vb⟩ = r at *
  simp only at A ⊢
  have Z := Cbox.new w #[.int .i64 vk, .int .i64 vn, .int .i64 vm, .string ⟨vb.toArray⟩] 42
  have A0 := (Below.refl w.heap.size w).alloc (Nat.le_refl _) (.cells #[.int .i64 vk, .int .i64 vn, .int .i64 vm, .string ⟨vb.toArray⟩] 42)
  cases r with
  | false =>
    clear Z
    go_enter Tryz.func66, Tryz.ntmps66
    go_wp2_with (go_at_call 68; refine (A _).mono ?_; rintro e w1 ⟨rfl, b1⟩; have B1 := A0.trans (b1.mono A0.size))
    go_ret
    exact ⟨rfl, B1⟩
  | true =>
    rw [Bool.true_and]
    by_cases h5 : vk = 5
    · subst h5
      go_enter Tryz.func66, Tryz.ntmps66
      go_wp2_with (go_at_call 68; refine (A _).mono ?_; rintro e w1 ⟨rfl, b1⟩; have B1 := A0.trans (b1.mono A0.size); have z0 := (Z.later b1).at 0; have z1 := (Z.later b1).at 1; have zl := (Z.later b1).lt)
      go_ret
      exact ⟨rfl, B1⟩
    have h5' : ¬ vk = 5 := h5
    by_cases h1 : vk = 1
    · subst h1
      by_cases h0 : vn < 0
      · go_enter Tryz.func66, Tryz.ntmps66
        go_wp2_with (go_at_call 68; refine (A _).mono ?_; rintro e w1 ⟨rfl, b1⟩; have B1 := A0.trans (b1.mono A0.size); have z0 := (Z.later b1).at 0; have z1 := (Z.later b1).at 1; have zl := (Z.later b1).lt)
        go_ret
        exact ⟨by simp [h0], B1⟩
      · go_enter Tryz.func66, Tryz.ntmps66
        go_wp2_with (go_at_call 68; refine (A _).mono ?_; rintro e w1 ⟨rfl, b1⟩; have B1 := A0.trans (b1.mono A0.size); have z0 := (Z.later b1).at 0; have z1 := (Z.later b1).at 1; have zl := (Z.later b1).lt)
        go_ret
        exact ⟨by simp, B1⟩
    have h1' : (vk == 1) = false := by rw [beq_eq_false_iff_ne]; exact h1
    by_cases h2 : vk = 2
    · subst h2
      by_cases h0 : vn < 0
      · go_enter Tryz.func66, Tryz.ntmps66
        go_wp2_with (go_at_call 68; refine (A _).mono ?_; rintro e w1 ⟨rfl, b1⟩; have B1 := A0.trans (b1.mono A0.size); have z0 := (Z.later b1).at 0; have z1 := (Z.later b1).at 1; have zl := (Z.later b1).lt)
        go_ret
        exact ⟨by simp [h0], B1⟩
      · go_enter Tryz.func66, Tryz.ntmps66
        go_wp2_with (go_at_call 68; refine (A _).mono ?_; rintro e w1 ⟨rfl, b1⟩; have B1 := A0.trans (b1.mono A0.size); have z0 := (Z.later b1).at 0; have z1 := (Z.later b1).at 1; have zl := (Z.later b1).lt)
        go_ret
        exact ⟨by simp, B1⟩
    have h2' : (vk == 2) = false := by rw [beq_eq_false_iff_ne]; exact h2
    go_enter Tryz.func66, Tryz.ntmps66
    go_wp2_with (go_at_call 68; refine (A _).mono ?_; rintro e w1 ⟨rfl, b1⟩; have B1 := A0.trans (b1.mono A0.size); have z0 := (Z.later b1).at 0; have z1 := (Z.later b1).at 1; have zl := (Z.later b1).lt)
    go_ret
    have e5 : (vk == 5) = false := by rw [beq_eq_false_iff_ne]; exact h5
    exact ⟨by simp [e5, h1', h2']; exact h5, B1⟩
end Go.Proofs.YtclhmmgdhagloaaGreatDoor
