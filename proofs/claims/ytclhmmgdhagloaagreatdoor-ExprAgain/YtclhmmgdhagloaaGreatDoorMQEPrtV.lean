/-
  The contract of expr.Parse, of a text that the lexer splits.
  The text that longstoplaw06.knows knows, its tokens and its nodes.
  What datum.Parse tells of a text that is no literal; of the known tokens.
  expr.Parse of the known text.
  The contract of longstoplaw06.knows.
  With a not behind them nodes are one deeper, or too deep; their columns are the same, and their text stands within.
  What datum.Print tells of the values that a literal may have: null and the two truths besides.
-/
import Derived.Test.YtclhmmgdhagloaaGreatDoorEPrt6
namespace Go.Proofs.YtclhmmgdhagloaaGreatDoor
open Go.RowKit Go.Shelf
attribute [local go_sem] cell?_more frozen?_more setCell_more more_lt more_more more_drew more_drewN setCell_drewN alloc_drewN

theorem Nowns.base_le {w : World} {b b' : Nat} {v : Value} {x : List Nd} (h : Nowns w b v x) (hb : b' ≤ b) : Nowns w b' v x := by
  obtain ⟨h1, h2⟩ := h
  refine ⟨h1, ?_⟩
  rcases h2 with h2 | ⟨g, cap, cur, e1, e2, e3⟩
  · exact .inl h2
  · exact .inr ⟨g, cap, cur, e1, Nat.le_trans hb e2, e3⟩

/-- What Parse answers, of so many tokens. -/
def parseP (R : Rz) (n base : Nat) (e : Ending) (w' : World) : Prop :=
  if R.1 = 0 then (if 0 < depN mayN R.2.2 then (if R.2.1 < n then e = .returned (.tuple #[.slice none 0 0, .int .i64 30]) else ∃ v, e = .returned (.tuple #[v, .int .i64 0]) ∧ Nowns w' base v R.2.2) else e = .returned (.tuple #[.slice none 0 0, .int .i64 38]))
  else e = .returned (.tuple #[.slice none 0 0, .int .i64 (R.1 : Int)])

set_option maxRecDepth 20000 in
set_option maxHeartbeats 4000000 in
theorem parse6_any (l : List UInt8) (x : List Tok) (V : List UInt8 → Option Va) (w : World) (hl : l.length ≤ 4096) (hT : Tabs w) (hP : Ptab w) (hS : Sg w) (hx : lexL vz dpv l 0 = some x) (hn : x.length ≤ 4096)
    (PA : ∀ W, Below w.heap.size w W → Pars W (x.map tin) V) (R : Rz) (hR : rdx (nxt (x.map tin)) V (x.length + 1) (7 + 8 * x.length) .ex 0 [] 0 = R) (hsh : shN R.2.2) (hr2 : R.2.1 ≤ 4096) :
    Calls Tryz.prog 20 #[.string ⟨l.toArray⟩] w fun e w' => parseP R x.length w.heap.size e w' ∧ Below w.heap.size w w' := by
  have SP := split_any l w hl hT hP
  rw [hx] at SP
  have RD : Hid (∀ W v, Below w.heap.size w W → Towns W w.heap.size v x → Calls Tryz.prog 43 #[v] W fun e w' => readP R W.heap.size e w' ∧ Below W.heap.size W w') := by
    intro W v hW hv
    obtain ⟨ao, cap, rfl, htw⟩ := hv.shape
    have := read_any ao (x.map tin) cap V W ⟨htw, hT.later hW, hP.later hW, by rw [List.length_map]; exact hn, hS.later hW⟩ (PA W hW) R (by rw [List.length_map]; exact hR) hsh
    rw [List.length_map] at this
    exact this
  have TS : Hid (∀ W v, Towns W w.heap.size v x → ∃ ao cap, v = .slice ao x.length cap) := by
    intro W v hv
    obtain ⟨ao, cap, h, _⟩ := hv.shape
    exact ⟨ao, cap, h⟩
  clear hT hP hS PA hR hsh hx
  obtain ⟨r0, r1, r2⟩ := R
  simp only at hr2
  unfold parseP
  unfold readP at RD
  simp only at RD ⊢
  generalize hxl : x.length = n at *
  by_cases h0 : r0 = 0
  case neg =>
    simp only [if_neg h0] at RD ⊢
    have h0' : ((r0 : Int) == 0) = false := by rw [beq_eq_false_iff_ne]; omega
    go_enter Tryz.func20, Tryz.ntmps20
    go_wp2_with (first
      | (go_at_call 42; refine SP.mono ?_; rintro e w1 ⟨⟨v, rfl, h1⟩, b1⟩; obtain ⟨ao, cap, rfl⟩ := TS.out _ _ h1; have RD1 := RD.out _ _ b1 h1)
      | (go_at_call 43; refine RD1.mono ?_; rintro e w2 ⟨rfl, b2⟩))
    refine bodyPost_ret_by (v := .tuple #[.slice none 0 0, .int .i64 (r0 : Int)]) ?_ rfl ⟨rfl, below_trans b1 b2⟩
    simp [results, Tryz.results20, go_sem]
  subst h0
  simp only [↓reduceIte] at RD ⊢
  by_cases hd : 0 < depN mayN r2
  case neg =>
    simp only [if_neg hd] at RD ⊢
    go_enter Tryz.func20, Tryz.ntmps20
    go_wp2_with (first
      | (go_at_call 42; refine SP.mono ?_; rintro e w1 ⟨⟨v, rfl, h1⟩, b1⟩; obtain ⟨ao, cap, rfl⟩ := TS.out _ _ h1; have RD1 := RD.out _ _ b1 h1)
      | (go_at_call 43; refine RD1.mono ?_; rintro e w2 ⟨rfl, b2⟩))
    refine bodyPost_ret_by (v := .tuple #[.slice none 0 0, .int .i64 38]) ?_ rfl ⟨rfl, below_trans b1 b2⟩
    simp [results, Tryz.results20, go_sem]
  simp only [if_pos hd] at RD ⊢
  by_cases hlt : r1 < n
  · simp only [if_pos hlt]
    have hlt' : (r1 : Int) < (n : Int) := by omega
    go_enter Tryz.func20, Tryz.ntmps20
    go_wp2_with (first
      | (go_at_call 42; refine SP.mono ?_; rintro e w1 ⟨⟨v, rfl, h1⟩, b1⟩; obtain ⟨ao, cap, rfl⟩ := TS.out _ _ h1; have RD1 := RD.out _ _ b1 h1)
      | (go_at_call 43; refine RD1.mono ?_; rintro e w2 ⟨⟨nv, rfl, h2⟩, b2⟩))
    refine bodyPost_ret_by (v := .tuple #[.slice none 0 0, .int .i64 30]) ?_ rfl ⟨rfl, below_trans b1 b2⟩
    simp [results, Tryz.results20, go_sem]
  · simp only [if_neg hlt]
    have hlt' : ¬ (r1 : Int) < (n : Int) := by omega
    go_enter Tryz.func20, Tryz.ntmps20
    go_wp2_with (first
      | (go_at_call 42; refine SP.mono ?_; rintro e w1 ⟨⟨v, rfl, h1⟩, b1⟩; obtain ⟨ao, cap, rfl⟩ := TS.out _ _ h1; have RD1 := RD.out _ _ b1 h1)
      | (go_at_call 43; refine RD1.mono ?_; rintro e w2 ⟨⟨nv, rfl, h2⟩, b2⟩))
    refine bodyPost_ret_by (v := .tuple #[nv, .int .i64 0]) ?_ rfl ⟨⟨nv, rfl, Nowns.base_le h2 b1.size⟩, below_trans b1 b2⟩
    simp [results, Tryz.results20, go_sem]
end Go.Proofs.YtclhmmgdhagloaaGreatDoor

namespace Go.Proofs.YtclhmmgdhagloaaGreatDoor
open Go.RowKit Go.Shelf

abbrev Q0 : List UInt8 := [97, 32, 43, 32, 50, 32, 42, 32, 98]
abbrev Q1 : Tok := ⟨1, [97], vz, 0⟩
abbrev Q2 : Tok := ⟨2, [43], vz, 2⟩
abbrev Q3 : Tok := ⟨3, [50], ⟨1, 2, 0, []⟩, 4⟩
abbrev Q4 : Tok := ⟨2, [42], vz, 6⟩
abbrev Q5 : Tok := ⟨1, [98], vz, 8⟩

theorem pv_2 : pv ⟨1, 2, 0, []⟩ = [50] := by
  have hPR : PR [50] = some (false, 2, 0) := by decide +kernel
  have hb := (PR_back [50] false 2 0 hPR (by decide +kernel)).2
  have hvr : vr ⟨1, 2, 0, []⟩ = true := by decide +kernel
  unfold pv
  rw [if_pos hvr]
  show dtext 2 0 = _
  exact hb
theorem dpv_2 : dpv [50] = some ⟨1, 2, 0, []⟩ := by
  have hPR : PR [50] = some (false, 2, 0) := by decide +kernel
  have htl : tlv [50] = (⟨1, 2, 0, []⟩, true) := by
    unfold tlv tnv
    rw [if_neg (by decide), show trimP [50] = [50] by decide, hPR]
    rfl
  unfold dpv
  rw [htl]
  rw [if_pos ⟨rfl, pv_2⟩]

theorem lex_Q (l : List UInt8) (i : Nat) (c : UInt8) (_k _n : Nat) (x : Tok) (h : isB c = false) (hk : tok vz dpv (c :: l) i = some x) : lexL vz dpv (c :: l) i = (lexL vz dpv ((c :: l).drop x.t.length) (i + x.t.length)).map (x :: ·) := by
  rw [lex_tok _ _ _ h, hk]
theorem lex_Q0 : lexL vz dpv Q0 0 = some [Q1, Q2, Q3, Q4, Q5] := by
  rw [lex_Q _ 0 97 0 0 Q1 (by decide) (by
    have h : lxt Q0 = (1, 1) := by decide +kernel
    unfold tok; rw [h]; rfl)]
  show (lexL vz dpv [32, 43, 32, 50, 32, 42, 32, 98] 1).map _ = _
  rw [lex_blank _ _ _ (by decide), lex_Q _ _ 43 0 0 Q2 (by decide) (by
    have h : lxt [43, 32, 50, 32, 42, 32, 98] = (2, 1) := by decide +kernel
    unfold tok; rw [h]; rfl)]
  show Option.map _ (Option.map _ (lexL vz dpv [32, 50, 32, 42, 32, 98] 3)) = _
  rw [lex_blank _ _ _ (by decide), lex_Q _ _ 50 0 0 Q3 (by decide) (by
    have h : lxt [50, 32, 42, 32, 98] = (3, 1) := by decide +kernel
    unfold tok
    rw [h, if_neg (by decide), if_neg (by decide), if_pos rfl, show ([50, 32, 42, 32, 98] : List UInt8).take (3, 1).2 = [50] from rfl, dpv_2])]
  show Option.map _ (Option.map _ (Option.map _ (lexL vz dpv [32, 42, 32, 98] 5))) = _
  rw [lex_blank _ _ _ (by decide), lex_Q _ _ 42 0 0 Q4 (by decide) (by
    have h : lxt [42, 32, 98] = (2, 1) := by decide +kernel
    unfold tok; rw [h]; rfl)]
  show Option.map _ (Option.map _ (Option.map _ (Option.map _ (lexL vz dpv [32, 98] 7)))) = _
  rw [lex_blank _ _ _ (by decide), lex_Q _ _ 98 0 0 Q5 (by decide) (by
    have h : lxt [98] = (1, 1) := by decide +kernel
    unfold tok; rw [h]; rfl)]
  rfl

theorem rt_one (c : UInt8) (x : Ti) (y : Tok) (hx : x.t = [c]) (h : isB c = false) (hk : tok vz dpv [c] 0 = some y) (hy : y.t = [c]) (hs : sameT (tin y) ⟨x.k, x.t, x.v, 0⟩ = true) : rtok x = true := by
  unfold rtok
  rw [hx, if_pos (by simp)]
  rw [lex_tok _ _ _ h, hk]
  have e : (lexL vz dpv (([c] : List UInt8).drop y.t.length) (0 + y.t.length)).map (y :: ·) = some [y] := by rw [hy]; rfl
  show rt1 ((lexL vz dpv (([c] : List UInt8).drop y.t.length) (0 + y.t.length)).map (y :: ·)) x = true
  rw [e]
  exact hs
theorem rt_Q1 : rtok (tin Q1) = true := rt_one 97 _ ⟨1, [97], vz, 0⟩ rfl (by decide) (by
    have h : lxt [97] = (1, 1) := by decide +kernel
    unfold tok; rw [h]; rfl) rfl rfl
theorem rt_Q2 : rtok (tin Q2) = true := rt_one 43 _ ⟨2, [43], vz, 0⟩ rfl (by decide) (by
    have h : lxt [43] = (2, 1) := by decide +kernel
    unfold tok; rw [h]; rfl) rfl rfl
theorem rt_Q3 : rtok (tin Q3) = true := rt_one 50 _ ⟨3, [50], ⟨1, 2, 0, []⟩, 0⟩ rfl (by decide) (by
    have h : lxt [50] = (3, 1) := by decide +kernel
    unfold tok
    rw [h, if_neg (by decide), if_neg (by decide), if_pos rfl, show ([50] : List UInt8).take (3, 1).2 = [50] from rfl, dpv_2]) rfl rfl
theorem rt_Q4 : rtok (tin Q4) = true := rt_one 42 _ ⟨2, [42], vz, 0⟩ rfl (by decide) (by
    have h : lxt [42] = (2, 1) := by decide +kernel
    unfold tok; rw [h]; rfl) rfl rfl
theorem rt_Q5 : rtok (tin Q5) = true := rt_one 98 _ ⟨1, [98], vz, 0⟩ rfl (by decide) (by
    have h : lxt [98] = (1, 1) := by decide +kernel
    unfold tok; rw [h]; rfl) rfl rfl

/-- The known tokens, as they are looked at. -/
def nxQ (k : Nat) : Ti := match [tin Q1, tin Q2, tin Q3, tin Q4, tin Q5][k]? with | some x => x | none => tz
theorem nx_Q : nxt ([Q1, Q2, Q3, Q4, Q5].map tin) = nxQ := by
  funext k
  match k with
  | 0 => show (if rtok (tin Q1) = true then tin Q1 else tz) = _; rw [rt_Q1]; rfl
  | 1 => show (if rtok (tin Q2) = true then tin Q2 else tz) = _; rw [rt_Q2]; rfl
  | 2 => show (if rtok (tin Q3) = true then tin Q3 else tz) = _; rw [rt_Q3]; rfl
  | 3 => show (if rtok (tin Q4) = true then tin Q4 else tz) = _; rw [rt_Q4]; rfl
  | 4 => show (if rtok (tin Q5) = true then tin Q5 else tz) = _; rw [rt_Q5]; rfl
  | k + 5 => rfl
/-- What the known texts tell as values. -/
def vQ (t : List UInt8) : Option Va := if t = [50] then some ⟨1, 2, 0, []⟩ else none
/-- The known nodes. -/
abbrev nQ : List Nd := [⟨2, [], [97], vz0, 0⟩, ⟨1, [], [], ⟨1, 2, 0, []⟩, 0⟩, ⟨2, [], [98], vz0, 0⟩, ⟨6, [], [], vz0, 0⟩, ⟨9, [], [], vz0, 0⟩]
theorem rd_Q : rdx nxQ vQ 6 47 .ex 0 [] 0 = (0, 5, nQ) := by
  rfl
end Go.Proofs.YtclhmmgdhagloaaGreatDoor

namespace Go.Proofs.YtclhmmgdhagloaaGreatDoor
open Go.RowKit Go.Shelf
attribute [local go_sem] cell?_more frozen?_more setCell_more more_lt more_more more_drew more_drewN setCell_drewN alloc_drewN

set_option maxHeartbeats 2000000 in
theorem vtold_no (t : List UInt8) (w : World) (hl : t.length ≤ 140737488351232) (h39 : (t.head? == some 39) = false) (h60 : (t.head? == some 60) = false) (n1 : ((ByteArray.mk t.toArray).toList == [110, 117, 108, 108]) = false) (n2 : ((ByteArray.mk t.toArray).toList == [116, 114, 117, 101]) = false) (n3 : ((ByteArray.mk t.toArray).toList == [102, 97, 108, 115, 101]) = false)
    (hPR : PR (trimP t) = none) : Calls Tryz.prog 197 #[.string ⟨t.toArray⟩] w fun e w' => (∃ v, e = .returned (.tuple #[vv v, .bool false])) ∧ Below w.heap.size w w' := by
  have H39 : ∀ W, Calls Tryz.prog 245 #[.string ⟨t.toArray⟩, .string ⟨#[39]⟩] W fun e w' => e = .returned (.bool (t.head? == some 39)) ∧ W = w' := fun W => prefix_any ⟨t.toArray⟩ 39 W (by show t.length ≤ _; omega)
  have H60 : ∀ W, Calls Tryz.prog 245 #[.string ⟨t.toArray⟩, .string ⟨#[60]⟩] W fun e w' => e = .returned (.bool (t.head? == some 60)) ∧ W = w' := fun W => prefix_any ⟨t.toArray⟩ 60 W (by show t.length ≤ _; omega)
  have N := fun W => toldNumber_any t W hl
  have hf : (tnv t).2 = false := by unfold tnv; rw [hPR]
  rw [h60] at H60
  rw [h39] at H39
  rw [hf] at N
  rcases hx : (tnv t).1 with ⟨k, n, m, b⟩
  rw [hx] at N
  have N' : ∀ W, Calls Tryz.prog 248 #[.string ⟨t.toArray⟩] W fun e w' => e = .returned (.tuple #[va k n m ⟨b.toArray⟩, .bool false]) ∧ Below W.heap.size W w' := N
  have HE : Hid (∃ v, Ending.returned (.tuple #[va k n m ⟨b.toArray⟩, .bool false]) = .returned (.tuple #[vv v, .bool false])) := ⟨⟨k, n, m, b⟩, rfl⟩
  clear N hx hf hPR h39 h60 hl
  generalize ByteArray.mk t.toArray = B at *
  generalize ByteArray.mk b.toArray = C at *
  go_enter Tryz.func197, Tryz.ntmps197
  go_wp2_with (first
    | (go_at_call 245; with_reducible refine (H39 _).mono ?_; rintro e w' ⟨rfl, rfl⟩)
    | (go_at_call 245; with_reducible refine (H60 _).mono ?_; rintro e w' ⟨rfl, rfl⟩)
    | (go_at_call 248; refine (N' _).mono ?_; rintro e w1 ⟨rfl, b1⟩; have bx : Box w1 w.heap.size ⟨0, 0, 0, []⟩ := (Box.new w 0 0 0 []).later b1; obtain ⟨c0, c1, c2, c3⟩ := bx.at4; have f0 := bx.free 0; have f1 := bx.free 1; have f2 := bx.free 2; have f3 := bx.free 3; have lt1 := bx.lt; clear bx))
  refine bodyPost_ret_by (v := .tuple #[va k n m C, .bool false]) ?_ rfl ⟨HE.out, ?_⟩
  · simp [results, Tryz.results197, go_sem, c0, c1, c2, c3]
  · have b0 : Below w.heap.size w w1 := ((Below.refl _ w).alloc (Nat.le_refl _) _).trans (b1.mono (by simp))
    exact (((b0.setCell (p := ⟨w.heap.size, 0, none⟩) (Nat.le_refl _) _).setCell (p := ⟨w.heap.size, 1, none⟩) (Nat.le_refl _) _).setCell (p := ⟨w.heap.size, 2, none⟩) (Nat.le_refl _) _).setCell (p := ⟨w.heap.size, 3, none⟩) (Nat.le_refl _) _

set_option maxHeartbeats 2000000 in
theorem vparse_no (t : List UInt8) (w : World) (hl : t.length ≤ 140737488351232) (h39 : (t.head? == some 39) = false) (h60 : (t.head? == some 60) = false) (n1 : ((ByteArray.mk t.toArray).toList == [110, 117, 108, 108]) = false) (n2 : ((ByteArray.mk t.toArray).toList == [116, 114, 117, 101]) = false) (n3 : ((ByteArray.mk t.toArray).toList == [102, 97, 108, 115, 101]) = false)
    (hPR : PR (trimP t) = none) : Calls Tryz.prog 134 #[.string ⟨t.toArray⟩] w fun e w' => e = .returned (dpR none) ∧ Below w.heap.size w w' := by
  have T := fun W => vtold_no t W hl h39 h60 n1 n2 n3 hPR
  show Calls _ _ _ _ fun e w' => e = .returned (.tuple #[va 0 0 0 ⟨#[]⟩, .int .i64 21]) ∧ _
  clear n1 n2 n3 h39 h60 hPR hl
  generalize ByteArray.mk t.toArray = B at *
  go_enter Tryz.func134, Tryz.ntmps134
  go_wp2_with fail
  refine (T _).mono ?_
  rintro e w1 ⟨⟨⟨k, n, m, b⟩, rfl⟩, b1⟩
  have bx : Box w1 w.heap.size ⟨0, 0, 0, []⟩ := (Box.new w 0 0 0 []).later b1
  have B1 : Below w.heap.size w w1 := ((Below.refl _ w).alloc (Nat.le_refl _) _).trans (b1.mono (by simp))
  have s1 := B1.size
  obtain ⟨c0, c1, c2, c3⟩ := bx.at4
  have f0 := bx.free 0
  have f1 := bx.free 1
  have f2 := bx.free 2
  have f3 := bx.free 3
  have lt1 := bx.lt
  clear b1 bx
  go_wp2
  refine bodyPost_ret_by (v := .tuple #[va 0 0 0 ⟨#[]⟩, .int .i64 21]) ?_ rfl ⟨rfl, ?_⟩
  · simp [results, Tryz.results134, go_sem, c0, c1, c2, c3, lt1]
  · refine Below.alloc ?_ (by simp; omega) _
    have B2 := B1
    exact (((B2.setCell (p := ⟨w.heap.size, 0, none⟩) (Nat.le_refl _) _).setCell (p := ⟨w.heap.size, 1, none⟩) (Nat.le_refl _) _).setCell (p := ⟨w.heap.size, 2, none⟩) (Nat.le_refl _) _).setCell (p := ⟨w.heap.size, 3, none⟩) (Nat.le_refl _) _
end Go.Proofs.YtclhmmgdhagloaaGreatDoor

namespace Go.Proofs.YtclhmmgdhagloaaGreatDoor
open Go.RowKit Go.Shelf
attribute [local go_sem] cell?_more frozen?_more setCell_more more_lt more_more more_drew more_drewN setCell_drewN alloc_drewN

theorem no1 (c : UInt8) (w : World) (h39 : (some c == some (39 : UInt8)) = false) (h60 : (some c == some (60 : UInt8)) = false) (hPR : PR (trimP [c]) = none) : Calls Tryz.prog 134 #[.string ⟨[c].toArray⟩] w fun e w' => e = .returned (dpR none) ∧ Below w.heap.size w w' :=
  vparse_no [c] w (by simp) h39 h60 (by rw [ByteArray.toList_eq]; simp) (by rw [ByteArray.toList_eq]; simp) (by rw [ByteArray.toList_eq]; simp) hPR
theorem pars_Q (w : World) (hT : Tabs w) (hP : Ptab w) : Pars w ([Q1, Q2, Q3, Q4, Q5].map tin) vQ := by
  refine ⟨rfl, fun k W hW => ?_⟩
  rw [nx_Q]
  match k with
  | 0 => exact no1 97 W (by decide) (by decide) (by decide +kernel)
  | 1 => exact no1 43 W (by decide) (by decide) (by decide +kernel)
  | 2 =>
    have := vparse_any [50] W (by simp) ⟨50, [], rfl, Or.inr (by decide)⟩ (hT.later hW) (hP.later hW)
    rw [dpv_2] at this
    exact this
  | 3 => exact no1 42 W (by decide) (by decide) (by decide +kernel)
  | 4 => exact no1 98 W (by decide) (by decide) (by decide +kernel)
  | k + 5 => exact vparse_no [] W (by simp) rfl rfl (by rw [ByteArray.toList_eq]; rfl) (by rw [ByteArray.toList_eq]; rfl) (by rw [ByteArray.toList_eq]; rfl) (by decide +kernel)

theorem dep_Q : depN mayN nQ = 3 := by decide +kernel
theorem prt_Q : prtN pv nQ = [40, 97, 32, 43, 32, 40, 50, 32, 42, 32, 98, 41, 41] := by
  unfold prtN
  rw [if_pos (by rw [dep_Q]; decide)]
  have e : runT pv nQ [] = [parT [[97], [43], parT [pv ⟨1, 2, 0, []⟩, [42], [98]]]] := rfl
  rw [e, pv_2]
  rfl
theorem col_Q : colsL nQ [] = [⟨2, [], [97], vz0, 0⟩, ⟨2, [], [98], vz0, 0⟩] := rfl
theorem sh_Q : shN nQ := by
  intro x hx
  simp at hx
  rcases hx with rfl | rfl | rfl | rfl | rfl <;> simp

theorem parse_Q (w : World) (hT : Tabs w) (hP : Ptab w) (hS : Sg w) :
    Calls Tryz.prog 20 #[.string ⟨#[97, 32, 43, 32, 50, 32, 42, 32, 98]⟩] w fun e w' => (∃ v, e = .returned (.tuple #[v, .int .i64 0]) ∧ Nowns w' w.heap.size v nQ) ∧ Below w.heap.size w w' := by
  have := parse6_any Q0 [Q1, Q2, Q3, Q4, Q5] vQ w (by simp) hT hP hS lex_Q0 (by simp) (fun W h => pars_Q W (hT.later h) (hP.later h)) (0, 5, nQ) (by rw [nx_Q]; exact rd_Q) sh_Q (by simp)
  refine this.mono fun e w' ⟨h, hb⟩ => ⟨?_, hb⟩
  unfold parseP at h
  rw [if_pos rfl, if_pos (by rw [dep_Q]; decide), if_neg (by simp)] at h
  exact h
theorem print_Q (ao : Option Addr) (cap : Nat) (w : World) (hv : Nw w ao nQ) (hT : Tabs w) (hP : Ptab w) (hS : Sg w) :
    Calls Tryz.prog 16 #[.slice ao 5 cap] w fun e w' => e = .returned (.string ⟨#[40, 97, 32, 43, 32, 40, 50, 32, 42, 32, 98, 41, 41]⟩) ∧ Below w.heap.size w w' := by
  have := print_walk pv 100 ao cap nQ w hv (by simp) sh_Q hT hS (by simp) (fun _ x hx => by
    simp at hx
    rcases hx with rfl | rfl | rfl | rfl | rfl
    · exact ⟨by simp, by simp, by show (pv vz0).length ≤ 100; decide +kernel⟩
    · exact ⟨by simp, by simp, by rw [pv_2]; simp⟩
    · exact ⟨by simp, by simp, by show (pv vz0).length ≤ 100; decide +kernel⟩
    · exact ⟨by simp, by simp, by show (pv vz0).length ≤ 100; decide +kernel⟩
    · exact ⟨by simp, by simp, by show (pv vz0).length ≤ 100; decide +kernel⟩) (fun _ x hx h1 W hW => by
    simp at hx
    rcases hx with rfl | rfl | rfl | rfl | rfl
    · simp at h1
    · exact vprint_any ⟨1, 2, 0, []⟩ W (hT.later hW) (hP.later hW) (Or.inl rfl) (by simp)
    · simp at h1
    · simp at h1
    · simp at h1)
  rw [prt_Q] at this
  exact this
end Go.Proofs.YtclhmmgdhagloaaGreatDoor

namespace Go.Proofs.YtclhmmgdhagloaaGreatDoor
open Go.RowKit Go.Shelf
attribute [local go_sem] cell?_more frozen?_more setCell_more more_lt more_more more_drew more_drewN setCell_drewN alloc_drewN

theorem num6_any (n : Int) (w : World) : Calls Tryz.prog 21 #[.int .i64 n] w fun e w' => e = .returned (.int .i64 n) ∧ w = w' := by
  go_enter Tryz.func21, Tryz.ntmps21
  go_wp2
  go_ret
  exact ⟨rfl, rfl⟩

set_option maxRecDepth 20000 in
set_option maxHeartbeats 4000000 in
theorem knows6_any (w : World) (hT : Tabs w) (hP : Ptab w) (hS : Sg w) : Calls Tryz.prog 7 #[] w fun e w' => e = .returned (.bool true) ∧ Below w.heap.size w w' := by
  have PQ := parse_Q w hT hP hS
  have PR6 : Hid (∀ W ao cap, Below w.heap.size w W → Nw W ao nQ → Calls Tryz.prog 16 #[.slice ao 5 cap] W fun e w' => e = .returned (.string ⟨#[40, 97, 32, 43, 32, 40, 50, 32, 42, 32, 98, 41, 41]⟩) ∧ Below W.heap.size W w') := fun W ao cap h hv => print_Q ao cap W hv (hT.later h) (hP.later h) (hS.later h)
  have DQ : Hid (∀ W ao cap, Below w.heap.size w W → Nw W ao nQ → Calls Tryz.prog 11 #[.slice ao 5 cap] W fun e w' => e = .returned (.int .i64 3) ∧ Below W.heap.size W w') := fun W ao cap h hv => by
    have := depth_of ao cap nQ W hv (by simp) sh_Q (hT.later h)
    rw [dep_Q] at this
    exact this
  have CQ : Hid (∀ W ao cap, Below w.heap.size w W → Nw W ao nQ → Calls Tryz.prog 14 #[.slice ao 5 cap] W fun e w' => (∃ a c, e = .returned (.slice a 2 c)) ∧ Below W.heap.size W w') := fun W ao cap h hv => by
    have := columns_any ao cap nQ W hv (by simp) sh_Q (hT.later h)
    rw [if_pos (by rw [dep_Q]; decide), col_Q] at this
    refine this.mono fun e w' ⟨⟨v, he, hn⟩, hb⟩ => ⟨?_, hb⟩
    obtain ⟨a, c, rfl, _⟩ := hn.lies
    exact ⟨a, c, he⟩
  have N6 := fun W => num6_any 0 W
  clear hT hP hS
  go_enter Tryz.func7, Tryz.ntmps7
  go_wp2_with (first
    | (go_at_call 20; refine PQ.mono ?_; rintro e w1 ⟨⟨v, rfl, ho⟩, b1⟩; obtain ⟨ao, cap, rfl, hnw⟩ := ho.lies; obtain ⟨b, off, rfl, hc⟩ := hnw (by simp); have c4 := (hc 4 (by simp)).1; have hg := (hc 4 (by simp)).lt; simp only [List.getElem_cons_succ, List.getElem_cons_zero] at c4 hg)
    | (go_at_call 21; refine (N6 _).mono ?_; rintro e w' ⟨rfl, rfl⟩))
  have RE := fun W => reserved_any ⟨#[97, 110, 100]⟩ W
  rw [show resL (ByteArray.mk #[97, 110, 100]).toList = true by rw [ByteArray.toList_eq]; decide +kernel] at RE
  have P1 := PR6.out w1 _ cap b1 hnw
  refine P1.mono ?_
  rintro e w2 ⟨rfl, b2⟩
  have B2 := below_trans b1 b2
  have D1 := DQ.out w2 _ cap B2 (hnw.later b2)
  have C1 : Hid (∀ W, Below w2.heap.size w2 W → _) := fun W h => CQ.out W (some ⟨b, off, none⟩) cap (below_trans B2 h) ((hnw.later b2).later h)
  clear hc ho hnw PQ P1
  go_wp2_with (first
    | (go_at_call 11; refine D1.mono ?_; rintro e w3 ⟨rfl, b3⟩; have C2 := C1.out _ b3)
    | (go_at_call 14; refine C2.mono ?_; rintro e w4 ⟨⟨ca, cc, rfl⟩, b4⟩)
    | (go_at_call 18; refine (RE _).mono ?_; rintro e w' ⟨rfl, rfl⟩))
  go_ret
  exact ⟨rfl, below_trans (below_trans B2 b3) b4⟩
end Go.Proofs.YtclhmmgdhagloaaGreatDoor

namespace Go.Proofs.YtclhmmgdhagloaaGreatDoor

end Go.Proofs.YtclhmmgdhagloaaGreatDoor

namespace Go.Proofs.YtclhmmgdhagloaaGreatDoor
open Go.RowKit Go.Shelf
attribute [local go_sem] cell?_more frozen?_more setCell_more more_lt more_more more_drew more_drewN setCell_drewN alloc_drewN

set_option maxHeartbeats 2000000 in
theorem boolText_any (n m : Int) (B : ByteArray) (w : World) : Calls Tryz.prog 119 #[va 4 n m B] w fun e w' => e = .returned (.string ⟨(if n = 1 then [116, 114, 117, 101] else [102, 97, 108, 115, 101] : List UInt8).toArray⟩) ∧ Grew w w' := by
  by_cases h : n = 1
  · subst h
    rw [if_pos rfl]
    go_enter Tryz.func119, Tryz.ntmps119
    go_wp2
    go_ret
    exact ⟨rfl, by repeat (first | assumption | exact Grew.refl _ | apply Grew.drew | apply Grew.drewN | apply Grew.alloc | apply Grew.more)⟩
  · rw [if_neg h]
    have h' : (n == 1) = false := by rw [beq_eq_false_iff_ne]; exact h
    go_enter Tryz.func119, Tryz.ntmps119
    go_wp2
    go_ret
    exact ⟨rfl, by repeat (first | assumption | exact Grew.refl _ | apply Grew.drew | apply Grew.drewN | apply Grew.alloc | apply Grew.more)⟩

/-- What Print answers of a value that a literal may have. -/
def pvl (v : Va) : List UInt8 := if v.k = 1 ∨ v.k = 2 ∨ v.k = 3 then pv v else if vr v then (if v.k = 4 then (if v.n = 1 then [116, 114, 117, 101] else [102, 97, 108, 115, 101]) else [110, 117, 108, 108]) else []

set_option maxHeartbeats 2000000 in
theorem vprint_lit (v : Va) (w : World) (hT : Tabs w) (hP : Ptab w) (hl : litV v = true) (hn : -9223372036854775808 ≤ v.n ∧ v.n ≤ 9223372036854775807) (hk : v.k = 0 ∨ v.k = 1 ∨ v.k = 2 ∨ v.k = 3 ∨ v.k = 4) :
    Calls Tryz.prog 62 #[vv v] w fun e w' => e = .returned (.string ⟨(pvl v).toArray⟩) ∧ Below w.heap.size w w' := by
  unfold pvl
  by_cases h123 : v.k = 1 ∨ v.k = 2 ∨ v.k = 3
  · rw [if_pos h123]
    exact vprint_any v w hT hP h123 hn
  rw [if_neg h123]
  obtain ⟨k, n, m, b⟩ := v
  simp only at hk h123 ⊢
  have hvr : vr ⟨k, n, m, b⟩ = true := by unfold litV at hl; rw [Bool.and_eq_true] at hl; exact hl.1
  have R : ∀ W, Below w.heap.size w W → Calls Tryz.prog 75 #[va k n m ⟨b.toArray⟩] W fun e w' => e = .returned (.bool true) ∧ Below W.heap.size W w' := fun W h => by
    have := vright_any k n m ⟨b.toArray⟩ W (hT.later h)
    have e : (vr ⟨k, n, m, b⟩) = true := hvr
    refine this.mono fun e' w' ⟨h1, h2⟩ => ⟨?_, h2⟩
    rw [h1]
    exact congrArg (fun z => Ending.returned (Value.bool z)) e
  rw [if_pos hvr]
  have B0 := Box.new w k n m b
  have A0 := (Below.refl w.heap.size w).alloc (Nat.le_refl _) (.cells #[.int .i64 k, .int .i64 n, .int .i64 m, .string ⟨b.toArray⟩] 42)
  clear hT hP hl hvr hn
  have hk2 : k = 0 ∨ k = 4 := by omega
  clear hk h123
  rcases hk2 with rfl | rfl
  · rw [if_neg (by decide)]
    go_enter Tryz.func62, Tryz.ntmps62
    go_wp2_with (go_at_call 75; refine (R _ A0).mono ?_; rintro e w1 ⟨rfl, b1⟩; have bx := B0.later b1; obtain ⟨c0, c1, c2, c3⟩ := bx.at4; have lt1 := bx.lt)
    go_ret
    exact ⟨rfl, A0.trans (b1.mono (by simp))⟩
  · rw [if_pos rfl]
    have BT := fun W => boolText_any n m ⟨b.toArray⟩ W
    generalize (if n = 1 then [116, 114, 117, 101] else [102, 97, 108, 115, 101] : List UInt8) = T at *
    go_enter Tryz.func62, Tryz.ntmps62
    go_wp2_with (first
      | (go_at_call 75; refine (R _ A0).mono ?_; rintro e w1 ⟨rfl, b1⟩; have bx := B0.later b1; obtain ⟨c0, c1, c2, c3⟩ := bx.at4; have lt1 := bx.lt)
      | (go_at_call 119; refine (BT _).mono ?_; rintro e w2 ⟨rfl, g2⟩))
    go_ret
    exact ⟨rfl, below_trans (A0.trans (b1.mono (by simp))) g2.below⟩
end Go.Proofs.YtclhmmgdhagloaaGreatDoor
