/-
  The contract of lexer.Split: the tokens of any text.
-/
import Derived.Test.YtoadhfcjegfanaaGreatDoorLTok
import Derived.Deep.AppendLies
namespace Go.Proofs.YtoadhfcjegfanaaGreatDoor
open Go.RowKit Go.Shelf
attribute [local go_sem] cell?_more frozen?_more setCell_more more_lt more_more more_drew more_drewN setCell_drewN alloc_drewN

/-- Tokens' cells, one behind the other. -/
def tcells (x : List Tok) : List Value := x.flatMap fun t => (tcs t).toList
theorem tcells_len (x : List Tok) : (tcells x).length = x.length * 7 := by
  induction x with
  | nil => rfl
  | cons t x ih => simp [tcells] at *; omega
theorem tcells_snoc (x : List Tok) (t : Tok) : tcells (x ++ [t]) = tcells x ++ (tcs t).toList := by
  simp [tcells]
/-- Tokens that a call has made lie behind a slice. -/
abbrev Towns (w : World) (base : Nat) (v : Value) (x : List Tok) : Prop := w.ownsRow base 29 7 v x.length (tcells x)
theorem Towns.later {w w' : World} {base : Nat} {v : Value} {x : List Tok} (h : Towns w base v x) (hb : Below w.heap.size w w') : Towns w' base v x :=
  World.ownsRow.kept (row := none) h ⟨hb.os, hb.tape, hb.output, hb.size, fun k hk _ => hb.block k hk⟩ (by
    cases hv : v.ownBlock with
    | none => exact .inl rfl
    | some k => exact .inr (by simp))

theorem Cbox.grown {w w' : World} {p : Nat} {cs : Array Value} {ty : TypeId} {row : Option Nat} (h : Cbox w p cs ty) (hg : w.grownBy w' row) (hne : some p ≠ row) : Cbox w' p cs ty := by
  unfold Cbox
  rw [hg.block p h.lt hne]
  exact h

/-- What Split answers. -/
def splitP (R : Option (List Tok)) (base : Nat) (e : Ending) (w' : World) : Prop := match R with
  | none => e = .returned (.tuple #[.slice none 0 0, .int .i64 30])
  | some x => ∃ v, e = .returned (.tuple #[v, .int .i64 0]) ∧ Towns w' base v x

theorem news_tok (w : World) (o : Obj) (x : Tok) : ∀ j u, (tcs x).toList[j]? = some u → ((w.alloc o).alloc (.cells (tcs x) 29)).cell? ((⟨w.heap.size + 1, 0, none⟩ : Addr).add j) = some u := by
  have h := Cbox.new (w.alloc o) (tcs x) 29
  rw [World.size_alloc] at h
  exact World.news_of_block h
theorem one_tok (x : Tok) : ∀ u ∈ (tcs x).toList, u.oneCell' = true := by
  intro u hu
  simp at hu
  rcases hu with rfl | rfl | rfl | rfl | rfl | rfl | rfl <;> rfl
theorem Towns.push {w : World} {base n : Nat} {v : Value} {acc : List Tok} {x : Tok} (h : w.ownsRow base 29 7 v n (tcells acc ++ (tcs x).toList)) (hn : n = acc.length + 1) : Towns w base v (acc ++ [x]) := by
  unfold Towns
  rw [tcells_snoc, List.length_append]
  subst hn
  exact h

theorem infoTok : (Tryz.prog.info? 29).map (fun i => (i.zero, i.size, i.bytes)) = some (some (.agg #[.int .i64 0, .string ⟨#[]⟩, .int .i64 0, .int .i64 0, .int .i64 0, .string ⟨#[]⟩, .int .i64 0]), 7, 72) := by kernel_rfl

set_option maxRecDepth 20000 in
set_option maxHeartbeats 4000000 in
theorem split_any (l : List UInt8) (w : World) (hl : l.length ≤ 4096) (hT : Tabs w) (hP : Ptab w) :
    Calls Tryz.prog 18 #[.string ⟨l.toArray⟩] w fun e w' => splitP (lexL vz dpv l 0) w.heap.size e w' ∧ Below w.heap.size w w' := by
  have hsz : (ByteArray.mk l.toArray).size = l.length := rfl
  have hl' : ¬ (4096 : Int) < (l.length : Int) := by omega
  have PB : ∀ (k : Nat) W, k ≤ l.length → Calls Tryz.prog 41 #[.string ⟨l.toArray⟩, .int .i64 (k : Int)] W fun e w' => e = .returned (.int .i64 ((k + blankN (l.drop k) : Nat) : Int)) ∧ W = w' := fun k W h => pastBlanks_any l k W (by omega) h
  have TA : ∀ (k : Nat) W, k ≤ l.length → Below w.heap.size w W → _ := fun k W h hb => tokenAt_any l k W (by omega) h (hT.later hb) (hP.later hb)
  have PB0 := fun W => PB 0 W (by omega)
  clear hT hP
  obtain ⟨R, hR⟩ : ∃ R, R = lexL vz dpv l 0 := ⟨_, rfl⟩
  rw [← hR]
  have h0 : Hid (R = lexL vz dpv (l.drop (blankN l)) (blankN l)) := by
    show R = _
    rw [hR, lex_pass, Nat.zero_add]
  have hb0 := blankN_drop l
  have hle0 := blankN_le l
  generalize hB : ByteArray.mk l.toArray = B at *
  go_enter Tryz.func18, Tryz.ntmps18
  go_wp2_with (go_at_call 41; refine (PB0 _).mono ?_; rintro e w' ⟨rfl, rfl⟩)
  go_loopw [4, 5] (fun r4 r5 wr => ∃ (acc : List Tok) (k : Nat), r5 = .int .i64 (k : Int) ∧ k ≤ l.length ∧ acc.length ≤ k ∧ blankN (l.drop k) = 0 ∧ Towns wr w.heap.size r4 acc ∧ Below w.heap.size w wr ∧ Hid (R = (lexL vz dpv (l.drop k) k).map (acc ++ ·))) (fun _ r _ => l.length - (intOf r).toNat)
  case atStart =>
    refine ⟨[], blankN l, rfl, hle0, Nat.zero_le _, hb0, World.ownsRow_nil _ _ _ _, Below.refl _ _, ?_⟩
    show R = _
    rw [h0.out]
    cases lexL vz dpv (l.drop (blankN l)) (blankN l) <;> rfl
  case round =>
    obtain ⟨acc, k, rfl, hk, hak, hbk, ho, hb, hH⟩ := hrel
    have sB := hb.size
    by_cases hlt : k < l.length
    · have hlt' : (k : Int) < (l.length : Int) := by omega
      have hne : l.drop k ≠ [] := by
        intro h
        have := List.drop_eq_nil_iff.1 h
        omega
      have hhere := lex_here (z := vz) (f := dpv) (l.drop k) k hbk hne
      have TK := TA k wr hk hb
      cases ht : tok vz dpv (l.drop k) k with
      | none =>
        rw [ht] at TK hhere
        have hR' : Hid (R = none) := by
          show R = none
          rw [hH.out, hhere]; rfl
        clear hH hhere ht hne hR h0 ho PB PB0 TA
        go_wp2_with (go_at_call 42; refine TK.mono ?_; rintro e w1 ⟨⟨⟨xk, xt, xv, xa⟩, rfl⟩, b1⟩)
        refine bodyPost_ret_by (v := .tuple #[.slice none 0 0, .int .i64 30]) ?_ rfl ⟨?_, ?_⟩
        · simp [results, Tryz.results18, go_sem]
        · rw [hR'.out]; exact rfl
        · exact (hb.trans (b1.mono sB)).alloc (by have := b1.size; omega) _
      | some x =>
        rw [ht] at TK hhere
        obtain ⟨hxt, h2, h3, h4, h5⟩ := tok_len ht
        have h6 := lxt_le (l.drop k)
        rw [List.length_drop] at h6
        obtain ⟨xk, xt, xv, xa⟩ := x
        have e1 : ((k + xt.length : Nat) : Int) = (k : Int) + (xt.length : Int) := by omega
        have hkx : k + xt.length ≤ l.length := by simp at h2; omega
        have PBk : ∀ W, Calls Tryz.prog 41 #[.string B, .int .i64 ((k : Int) + (xt.length : Int))] W fun e w' => e = .returned (.int .i64 ((k + xt.length + blankN (l.drop (k + xt.length)) : Nat) : Int)) ∧ W = w' := fun W => by
          have := PB (k + xt.length) W hkx
          rwa [e1] at this
        have hstep : Hid (R = (lexL vz dpv (l.drop (k + xt.length + blankN (l.drop (k + xt.length)))) (k + xt.length + blankN (l.drop (k + xt.length)))).map ((acc ++ [⟨xk, xt, xv, xa⟩]) ++ ·)) := by
          show R = _
          rw [hH.out, hhere]
          simp only
          rw [List.drop_drop, lex_pass, List.drop_drop]
          cases lexL vz dpv (l.drop (k + xt.length + blankN (l.drop (k + xt.length)))) (k + xt.length + blankN (l.drop (k + xt.length))) <;> simp
        have hbn := blankN_drop (l.drop (k + xt.length))
        have hbl := blankN_le (l.drop (k + xt.length))
        rw [List.drop_drop] at hbn
        rw [List.length_drop] at hbl
        have hsx : (ByteArray.mk xt.toArray).size = xt.length := rfl
        have hx1 : 1 ≤ xt.length := by simp at h2; omega
        generalize hq : k + xt.length + blankN (l.drop (k + xt.length)) = q at *
        have hql : q ≤ l.length := by omega
        have hqk : k < q := by omega
        clear hH hhere ht hne hR h0 PB PB0 TA hxt h2 h3 h4 h5 h6 hbk hq hbl
        obtain ⟨i0, hi, hz0, hz1, hz2⟩ := info_parts infoTok
        go_wp2_with (first
          | (go_at_call 42; refine TK.mono ?_; rintro e w1 ⟨rfl, b1⟩; have s1 := b1.size; have hb1 : Below w.heap.size w w1 := hb.trans (b1.mono sB); have ho1 := ho.later b1; clear b1 ho TK)
          | (at_builtin; refine wpList_append_own _ rfl _ _ 23 rfl w.heap.size 29 i0 (.agg #[.int .i64 0, .string ⟨#[]⟩, .int .i64 0, .int .i64 0, .int .i64 0, .string ⟨#[]⟩, .int .i64 0]) 7 72 Tryz.underlying23 hi hz0 hz1 hz2 rfl (by decide) _ _ _ rfl (World.ownsRow.alloc (World.ownsRow.alloc ho1 _) _) ⟨w1.heap.size + 1, 0, none⟩ 1 1 (tcs ⟨xk, xt, xv, xa⟩).toList rfl rfl (news_tok w1 _ ⟨xk, xt, xv, xa⟩) (one_tok ⟨xk, xt, xv, xa⟩) (by unfold maxLen; omega) (by omega) (by simp; omega) ?_))
        intro v2 w2 hown2 hgrow2 _
        have hb2 : Below w.heap.size w w2 := (((hb1.alloc (by omega) _).alloc (by simp; omega) _).grown hgrow2 (by simp; omega) (fun k hk => (World.ownsRow.lt ho1 k hk).1))
        have ho2 := Towns.push (x := ⟨xk, xt, xv, xa⟩) hown2 rfl
        have hcb : Cbox ((w1.alloc (.cells (tcs ⟨xk, xt, xv, xa⟩) 29)).alloc (.cells (tcs ⟨xk, xt, xv, xa⟩) 29)) w1.heap.size (tcs ⟨xk, xt, xv, xa⟩) 29 := (Cbox.new w1 _ _).later ((Below.refl _ _).alloc (Nat.le_refl _) _)
        have hcb2 := hcb.grown hgrow2 (fun h => by have := (World.ownsRow.lt ho1 _ h.symm).2; omega)
        have c1 := hcb2.at 1
        have lt1 := hcb2.lt
        clear hcb hcb2 hown2 hgrow2 ho1 hb1 hb
        go_wp2_with (go_at_call 41; refine (PBk _).mono ?_; rintro e w' ⟨rfl, rfl⟩)
        exact ⟨⟨acc ++ [⟨xk, xt, xv, xa⟩], q, rfl, hql, by simp; omega, hbn, ho2, hb2, hstep⟩, by simp [intOf]; omega⟩
    · have hlt' : ¬ (k : Int) < (l.length : Int) := by omega
      have hk' : k = l.length := by omega
      have hR' : Hid (R = some acc) := by
        show R = _
        rw [hH.out, hk', List.drop_length, lex_nil]
        simp
      clear hH hR h0 PB PB0 TA
      go_wp2
      refine bodyPost_ret_by (v := .tuple #[u4, .int .i64 0]) ?_ rfl ⟨?_, hb⟩
      · simp [results, Tryz.results18, go_sem]
      · rw [hR'.out]; exact ⟨_, rfl, ho⟩

theorem split_big (B : ByteArray) (w : World) (hl : 4096 < B.size) :
    Calls Tryz.prog 18 #[.string B] w fun e w' => e = .returned (.tuple #[.slice none 0 0, .int .i64 6]) ∧ w = w' := by
  have hl' : (4096 : Int) < (B.size : Int) := by omega
  go_enter Tryz.func18, Tryz.ntmps18
  go_wp2
  refine bodyPost_ret_by (v := .tuple #[.slice none 0 0, .int .i64 6]) ?_ rfl ⟨rfl, rfl⟩
  simp [results, Tryz.results18, go_sem]
end Go.Proofs.YtoadhfcjegfanaaGreatDoor
