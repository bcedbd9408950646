/-
  The contract of the document's Split: the tokens of any text.
-/
import Derived.Test.YtoadhfcjegfanaaGreatDoorLROneA
import Derived.Test.YtoadhfcjegfanaaGreatDoorLSplit
namespace Go.Proofs.YtoadhfcjegfanaaGreatDoor
open Go.RowKit Go.Shelf
attribute [local go_sem] cell?_more frozen?_more setCell_more more_lt more_more more_drew more_drewN setCell_drewN alloc_drewN

/-- Tokens of the document's that a call has made lie behind a slice. -/
abbrev Rowns (w : World) (base : Nat) (v : Value) (x : List Tok) : Prop := w.ownsRow base 31 7 v x.length (tcells x)
theorem Rowns.later {w w' : World} {base : Nat} {v : Value} {x : List Tok} (h : Rowns w base v x) (hb : Below w.heap.size w w') : Rowns w' base v x :=
  World.ownsRow.kept (row := none) h ⟨hb.os, hb.tape, hb.output, hb.size, fun k hk _ => hb.block k hk⟩ (by
    cases hv : v.ownBlock with
    | none => exact .inl rfl
    | some k => exact .inr (by simp))
theorem rnews_tok (w : World) (o : Obj) (x : Tok) : ∀ j u, (tcs x).toList[j]? = some u → ((w.alloc o).alloc (.cells (tcs x) 31)).cell? ((⟨w.heap.size + 1, 0, none⟩ : Addr).add j) = some u := by
  have h := Cbox.new (w.alloc o) (tcs x) 31
  rw [World.size_alloc] at h
  exact World.news_of_block h
theorem Rowns.push {w : World} {base n : Nat} {v : Value} {acc : List Tok} {x : Tok} (h : w.ownsRow base 31 7 v n (tcells acc ++ (tcs x).toList)) (hn : n = acc.length + 1) : Rowns w base v (acc ++ [x]) := by
  unfold Rowns
  rw [tcells_snoc, List.length_append]
  subst hn
  exact h
/-- What the document's Split answers. -/
def rsplitP (R : Option (List Tok)) (base : Nat) (e : Ending) (w' : World) : Prop := match R with
  | none => e = .returned (.tuple #[.slice none 0 0, .int .i64 30])
  | some x => ∃ v, e = .returned (.tuple #[v, .int .i64 0]) ∧ Rowns w' base v x
theorem rinfoTok : (Tryz.prog.info? 31).map (fun i => (i.zero, i.size, i.bytes)) = some (some (.agg #[.int .i64 0, .string ⟨#[]⟩, .int .i64 0, .int .i64 0, .int .i64 0, .string ⟨#[]⟩, .int .i64 0]), 7, 72) := by kernel_rfl

set_option maxRecDepth 20000 in
set_option maxHeartbeats 4000000 in
theorem rsplit_any (l : List UInt8) (w : World) (hl : l.length ≤ 4096) :
    Calls Tryz.prog 35 #[.string ⟨l.toArray⟩] w fun e w' => rsplitP (lexL vz dpv l 0) w.heap.size e w' ∧ Below w.heap.size w w' := by
  have hsz : (ByteArray.mk l.toArray).size = l.length := rfl
  have hl' : ¬ (4096 : Int) < (l.length : Int) := by omega
  have HG : Hid (∀ (k : Nat) h, (ByteArray.mk l.toArray)[k]'h = bat l k) := bat_get l
  have HX : Hid (∀ k, (ByteArray.mk l.toArray).extract k l.length = ⟨(l.drop k).toArray⟩) := fun k => by rw [ba_extract, List.take_length]
  have TA : Hid (∀ (k : Nat) W, k < l.length → Calls Tryz.prog 52 #[.string ⟨(l.drop k).toArray⟩] W fun e w' => (match tok vz dpv (l.drop k) 0 with | none => ∃ x : Tok, e = .returned (.tuple #[tkv x, .bool false]) | some x => e = .returned (.tuple #[tkv x, .bool true])) ∧ Below W.heap.size W w') := fun k W h => by
    rw [bat_drop l k h]
    exact rone_any _ _ W (by rw [← bat_drop l k h, List.length_drop]; omega)
  obtain ⟨R, hR⟩ : ∃ R, R = lexL vz dpv l 0 := ⟨_, rfl⟩
  rw [← hR]
  have h0 : Hid (R = (lexL vz dpv (l.drop 0) 0).map ([] ++ ·)) := by
    show R = _
    rw [hR, List.drop_zero]
    cases lexL vz dpv l 0 <;> rfl
  clear hR
  generalize ByteArray.mk l.toArray = S at *
  obtain ⟨i0, hi, hz0, hz1, hz2⟩ := info_parts rinfoTok
  go_enter Tryz.func35, Tryz.ntmps35
  go_wp2
  go_loopw [4, 5] (fun r4 r5 wr => ∃ (acc : List Tok) (k : Nat), r5 = .int .i64 (k : Int) ∧ k ≤ l.length ∧ acc.length ≤ k ∧ Rowns wr w.heap.size r4 acc ∧ Below w.heap.size w wr ∧ Hid (R = (lexL vz dpv (l.drop k) k).map (acc ++ ·))) (fun _ r _ => l.length - (intOf r).toNat)
  case atStart => exact ⟨[], 0, rfl, Nat.zero_le _, Nat.zero_le _, World.ownsRow_nil _ _ _ _, Below.refl _ _, h0⟩
  case round =>
    obtain ⟨acc, k, rfl, hk, hak, ho, hb, hH⟩ := hrel
    have sB := hb.size
    by_cases hlt : k < l.length
    · have hlt' : (k : Int) < (l.length : Int) := by omega
      have j0 : (0 : Int) ≤ (k : Int) := by omega
      have hgk := HG.out k
      have hxk := HX.out k
      have TK := TA.out k
      have hdr := bat_drop l k hlt
      obtain ⟨c, hc⟩ : ∃ c, c = bat l k := ⟨_, rfl⟩
      rw [← hc] at hgk hdr
      cases hB : isB c with
      | true =>
        have hH' : Hid (R = (lexL vz dpv (l.drop (k + 1)) (k + 1)).map (acc ++ ·)) := by
          show R = _
          rw [hH.out, hdr, lex_blank _ _ _ hB]
        have hcc : c = 32 ∨ c = 9 ∨ c = 10 := by
          unfold isB at hB
          simp at hB
          rcases hB with h | h | h
          · exact .inl (UInt8.toNat_inj.1 h)
          · exact .inr (.inl (UInt8.toNat_inj.1 h))
          · exact .inr (.inr (UInt8.toNat_inj.1 h))
        clear hH hdr hc hB HG HX TA TK hxk h0
        rcases hcc with hcc | hcc | hcc
        · have p32 : ((c.toNat : Int) == 32) = true := by rw [hcc]; rfl
          clear hcc
          go_wp2
          exact ⟨⟨acc, k + 1, by rw [cast1], by omega, by omega, ho, hb, hH'⟩, by simp [intOf] <;> omega⟩
        · have p32 : ((c.toNat : Int) == 32) = false := by rw [hcc]; rfl
          have p9 : ((c.toNat : Int) == 9) = true := by rw [hcc]; rfl
          clear hcc
          go_wp2
          exact ⟨⟨acc, k + 1, by rw [cast1], by omega, by omega, ho, hb, hH'⟩, by simp [intOf] <;> omega⟩
        · have p32 : ((c.toNat : Int) == 32) = false := by rw [hcc]; rfl
          have p9 : ((c.toNat : Int) == 9) = false := by rw [hcc]; rfl
          have p10 : ((c.toNat : Int) == 10) = true := by rw [hcc]; rfl
          clear hcc
          go_wp2
          exact ⟨⟨acc, k + 1, by rw [cast1], by omega, by omega, ho, hb, hH'⟩, by simp [intOf] <;> omega⟩
      | false =>
        have hn32 : ((c.toNat : Int) == 32) = false ∧ ((c.toNat : Int) == 9) = false ∧ ((c.toNat : Int) == 10) = false := by
          unfold isB at hB
          simp at hB
          refine ⟨?_, ?_, ?_⟩ <;> (rw [beq_eq_false_iff_ne]; omega)
        obtain ⟨p32, p9, p10⟩ := hn32
        have hhere := lex_tok (z := vz) (f := dpv) c (l.drop (k + 1)) k hB
        rw [← hdr] at hhere
        have hta : tok vz dpv (l.drop k) k = (tok vz dpv (l.drop k) 0).map (tshift k) := by
          have := tok_at (z := vz) (f := dpv) (l.drop k) 0 k
          rwa [Nat.zero_add] at this
        rw [hta] at hhere
        generalize ByteArray.mk (l.drop k).toArray = X at *
        cases ht : tok vz dpv (l.drop k) 0 with
        | none =>
          rw [ht] at TK hhere
          have hR' : Hid (R = none) := by
            show R = none
            rw [hH.out, hhere]; rfl
          clear hH hhere ht hta hdr hc hB HG HX TA h0 ho
          go_wp2_with (go_at_call 52; refine (TK _ hlt).mono ?_; rintro e w1 ⟨⟨⟨xk, xt, xv, xa⟩, rfl⟩, b1⟩)
          refine bodyPost_ret_by (v := .tuple #[.slice none 0 0, .int .i64 30]) ?_ rfl ⟨?_, ?_⟩
          · simp [results, Tryz.results35, go_sem]
          · rw [hR'.out]; exact rfl
          · exact (hb.trans (b1.mono sB)).alloc (by have := b1.size; omega) _
        | some x =>
          rw [ht] at TK hhere
          obtain ⟨hxt, h2, h3, h4, h5⟩ := tok_len ht
          have h6 := lxt_le (l.drop k)
          rw [List.length_drop] at h6
          obtain ⟨xk, xt, xv, xa⟩ := x
          have hkx : k + xt.length ≤ l.length := by simp at h2; omega
          have hx1 : 1 ≤ xt.length := by simp at h2; omega
          have hstep : Hid (R = (lexL vz dpv (l.drop (k + xt.length)) (k + xt.length)).map ((acc ++ [⟨xk, xt, xv, k⟩]) ++ ·)) := by
            show R = _
            rw [hH.out, hhere]
            have ea : xa = 0 := h4
            subst ea
            show ((lexL vz dpv ((l.drop k).drop xt.length) (k + xt.length)).map (tshift k ⟨xk, xt, xv, 0⟩ :: ·)).map (acc ++ ·) = _
            rw [List.drop_drop, show tshift k (⟨xk, xt, xv, 0⟩ : Tok) = ⟨xk, xt, xv, k⟩ by simp [tshift]]
            cases lexL vz dpv (l.drop (k + xt.length)) (k + xt.length) <;> simp
          have hsx : (ByteArray.mk xt.toArray).size = xt.length := rfl
          have e1 : ((k + xt.length : Nat) : Int) = (k : Int) + (xt.length : Int) := by omega
          clear hH hhere ht hta hdr hc hB HG HX TA h0 hxt h2 h3 h4 h5 h6
          go_wp2_with (first
            | (go_at_call 52; refine (TK _ hlt).mono ?_; rintro e w1 ⟨rfl, b1⟩; have s1 := b1.size; have hb1 : Below w.heap.size w w1 := hb.trans (b1.mono sB); have ho1 := ho.later b1; clear b1 ho TK)
            | (at_builtin; refine wpList_append_own _ rfl _ _ 22 rfl w.heap.size 31 i0 (.agg #[.int .i64 0, .string ⟨#[]⟩, .int .i64 0, .int .i64 0, .int .i64 0, .string ⟨#[]⟩, .int .i64 0]) 7 72 Tryz.underlying22 hi hz0 hz1 hz2 rfl (by decide) _ _ _ rfl (World.ownsRow.alloc (World.ownsRow.alloc ho1 _) _) ⟨w1.heap.size + 1, 0, none⟩ 1 1 (tcs ⟨xk, xt, xv, k⟩).toList rfl rfl (rnews_tok w1 _ ⟨xk, xt, xv, k⟩) (one_tok ⟨xk, xt, xv, k⟩) (by unfold maxLen; omega) (by omega) (by simp; omega) ?_))
          intro v2 w2 hown2 hgrow2 _
          have hb2 : Below w.heap.size w w2 := (((hb1.alloc (by omega) _).alloc (by simp; omega) _).grown hgrow2 (by simp; omega) (fun k hk => (World.ownsRow.lt ho1 k hk).1))
          have ho2 := Rowns.push (x := ⟨xk, xt, xv, k⟩) hown2 rfl
          have hcb : Cbox ((w1.alloc (.cells (tcs ⟨xk, xt, xv, k⟩) 31)).alloc (.cells (tcs ⟨xk, xt, xv, k⟩) 31)) w1.heap.size (tcs ⟨xk, xt, xv, k⟩) 31 := (Cbox.new w1 _ _).later ((Below.refl _ _).alloc (Nat.le_refl _) _)
          have hcb2 := hcb.grown hgrow2 (fun h => by have := (World.ownsRow.lt ho1 _ h.symm).2; omega)
          have c1 := hcb2.at 1
          have lt1 := hcb2.lt
          clear hcb hcb2 hown2 hgrow2 ho1 hb1 hb
          go_wp2
          exact ⟨⟨acc ++ [⟨xk, xt, xv, k⟩], k + xt.length, by rw [e1], by omega, by simp; omega, ho2, hb2, hstep⟩, by simp [intOf] <;> omega⟩
    · have hlt' : ¬ (k : Int) < (l.length : Int) := by omega
      have hR' : Hid (R = some acc) := by
        show R = _
        rw [hH.out, List.drop_eq_nil_of_le (by omega), lex_nil]
        simp
      clear hH h0 HG HX TA
      go_wp2
      refine bodyPost_ret_by (v := .tuple #[u4, .int .i64 0]) ?_ rfl ⟨?_, hb⟩
      · simp [results, Tryz.results35, go_sem]
      · rw [hR'.out]; exact ⟨_, rfl, ho⟩
end Go.Proofs.YtoadhfcjegfanaaGreatDoor
