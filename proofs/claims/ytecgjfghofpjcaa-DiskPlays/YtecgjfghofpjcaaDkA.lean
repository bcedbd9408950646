/-
  Of no program: what a call leaves as it was, by a set of blocks; a row of bytes of one's own that begins somewhere in its block.
-/
import Derived.Test.YtecgjfghofpjcaaLaws
import Derived.Test.YtecgjfghofpjcaaProg
import Derived.Deep.AppendLies
namespace Go.Proofs.Ytecgjfghofpjcaa
open Go.RowKit

/-- Nothing that was there has changed but blocks of S. -/
structure Chg (S : Nat → Prop) (w w' : World) : Prop where
  os : w'.os = w.os
  tape : w'.tape = w.tape
  output : w'.output = w.output
  size : w.heap.size ≤ w'.heap.size
  block : ∀ k, k < w.heap.size → ¬ S k → w'.heap[k]? = w.heap[k]?
theorem Chg.refl (S : Nat → Prop) (w : World) : Chg S w w := ⟨rfl, rfl, rfl, Nat.le_refl _, fun _ _ _ => rfl⟩
theorem Chg.trans {S S' T : Nat → Prop} {w w1 w2 : World} (h1 : Chg S w w1) (h2 : Chg S' w1 w2) (hS : ∀ k, k < w.heap.size → S k → T k) (hS' : ∀ k, k < w.heap.size → S' k → T k) : Chg T w w2 :=
  ⟨h2.os.trans h1.os, h2.tape.trans h1.tape, h2.output.trans h1.output, Nat.le_trans h1.size h2.size, fun k hk hT =>
    (h2.block k (Nat.lt_of_lt_of_le hk h1.size) (fun h => hT (hS' k hk h))).trans (h1.block k hk (fun h => hT (hS k hk h)))⟩
theorem Chg.mono {S T : Nat → Prop} {w w' : World} (h : Chg S w w') (hS : ∀ k, k < w.heap.size → S k → T k) : Chg T w w' :=
  ⟨h.os, h.tape, h.output, h.size, fun k hk hT => h.block k hk (fun h => hT (hS k hk h))⟩
theorem chg_of_below {S : Nat → Prop} {w w' : World} (h : Below w.heap.size w w') : Chg S w w' := ⟨h.os, h.tape, h.output, h.size, fun k hk _ => h.block k hk⟩
theorem chg_of_grown {w w' : World} {row : Option Nat} (h : w.grownBy w' row) : Chg (fun k => some k = row) w w' := ⟨h.os, h.tape, h.output, h.size, fun k hk hs => h.block k hk hs⟩
theorem Chg.below {S : Nat → Prop} {w w' : World} (h : Chg S w w') {n : Nat} (hn : n ≤ w.heap.size) (hS : ∀ k, S k → n ≤ k) : Below n w w' :=
  ⟨h.os, h.tape, h.output, h.size, fun k hk => h.block k (Nat.lt_of_lt_of_le hk hn) (fun s => by have := hS k s; omega)⟩
theorem chg_set (w : World) (b i : Nat) (v : Value) : Chg (fun k => k = b) w (w.setCell ⟨b, i, none⟩ v) :=
  ⟨rfl, rfl, rfl, by simp [World.setCell], fun k _ hk => Below.heap_setCell _ _ _ k hk⟩
theorem chg_none {S : Nat → Prop} {w w' : World} (h : Chg (fun _ => False) w w') : Chg S w w' := h.mono (fun _ _ e => e.elim)
theorem Chg.cell {S : Nat → Prop} {w w' : World} (h : Chg S w w') {b o : Nat} {v : Value} (hs : ¬ S b) (hc : w.cell? ⟨b, o, none⟩ = some v) : w'.cell? ⟨b, o, none⟩ = some v :=
  (World.cell?_of_block (w := w) (a := ⟨b, o, none⟩) (h.block b (World.block_lt_of_cell? w _ hc) hs)).trans hc

/-- The blocks from m on that the world has. -/
def From (m : Nat) (w : World) (k : Nat) : Prop := m ≤ k ∧ k < w.heap.size

/-- A row of bytes of one's own, in the block g, wherever in it. -/
def Ob (w : World) (v : Value) (g : Option Nat) (bs : List UInt8) : Prop :=
  (v = .slice none 0 0 ∧ bs = [] ∧ g = none) ∨ ∃ b o cap cur, v = .slice (some ⟨b, o, none⟩) bs.length cap ∧ g = some b ∧ w.heap[b]? = some (.cells cur 5 (0, 0)) ∧ bs.length ≤ cap ∧ cap ≤ maxLen ∧ o + cap ≤ cur.size ∧ ∀ i (h : i < bs.length), cur[o + i]? = some (.int .u8 (bs[i].toNat : Int))

theorem Ob.nil (w : World) : Ob w (.slice none 0 0) none [] := .inl ⟨rfl, rfl, rfl⟩
theorem Ob.kept {w w' : World} {v : Value} {g : Option Nat} {bs : List UInt8} (h : Ob w v g bs) (hb : ∀ b, g = some b → w'.heap[b]? = w.heap[b]?) : Ob w' v g bs := by
  rcases h with h | ⟨b, o, cap, cur, h1, h2, h3, h4⟩
  · exact .inl h
  · exact .inr ⟨b, o, cap, cur, h1, h2, by rw [hb b h2, h3], h4⟩
theorem Ob.lt {w : World} {v : Value} {g : Option Nat} {bs : List UInt8} (h : Ob w v g bs) {b : Nat} (hb : g = some b) : b < w.heap.size := by
  rcases h with ⟨_, _, h⟩ | ⟨b', o, cap, cur, h1, h2, h3, h4⟩
  · rw [h] at hb; cases hb
  · rw [h2] at hb; cases hb
    exact (Array.getElem?_eq_some_iff.1 h3).1
/-- What it looks like, and how it reads. -/
theorem Ob.form {w : World} {v : Value} {g : Option Nat} {bs : List UInt8} (h : Ob w v g bs) : ∃ ao cap, v = .slice ao bs.length cap ∧ Rd w ao bs.length cap bs ∧ bs.length ≤ cap ∧ cap ≤ maxLen := by
  rcases h with ⟨rfl, rfl, _⟩ | ⟨b, o, cap, cur, rfl, _, h3, h4, h5, h6, h7⟩
  · exact ⟨none, 0, rfl, Rd.nil w, Nat.le_refl _, Nat.zero_le _⟩
  · refine ⟨_, cap, rfl, ⟨rfl, h4, h5, (fun e => by cases e), fun _ => ⟨b, o, rfl, fun i hi => ?_⟩⟩, h4, h5⟩
    simp [World.cell?, h3, h7 i hi]
/-- It is cut: the first n bytes, without room behind them. -/
theorem Ob.cut {w : World} {ao : Option Addr} {m cap : Nat} {g : Option Nat} {bs : List UInt8} (h : Ob w (.slice ao m cap) g bs) (n : Nat) (hn : n ≤ bs.length) : Ob w (.slice ao n n) g (bs.take n) := by
  rcases h with ⟨e, rfl, hg⟩ | ⟨b, o, cap', cur, e, h2, h3, h4, h5, h6, h7⟩
  · cases e
    obtain rfl : n = 0 := by simpa using hn
    exact .inl ⟨rfl, rfl, hg⟩
  · cases e
    have hl : (bs.take n).length = n := by simp; omega
    refine .inr ⟨b, o, n, cur, by rw [hl], h2, h3, by omega, by omega, by omega, fun i hi => ?_⟩
    rw [List.getElem_take]
    exact h7 i (by omega)
/-- It is read from n on. -/
theorem Ob.drop {w : World} {b o m cap : Nat} {g : Option Nat} {bs : List UInt8} (h : Ob w (.slice (some ⟨b, o, none⟩) m cap) g bs) (n : Nat) (hn : n ≤ bs.length) (o' : Nat) (ho : o' = o + n ∨ (cap = n ∧ o' = o)) : Ob w (.slice (some ⟨b, o', none⟩) (m - n) (cap - n)) g (bs.drop n) := by
  rcases h with ⟨e, rfl, hg⟩ | ⟨b', o2, cap', cur, e, h2, h3, h4, h5, h6, h7⟩
  · cases e
  · cases e
    have hl : (bs.drop n).length = bs.length - n := by simp
    refine .inr ⟨b, o', cap - n, cur, by rw [hl], h2, h3, by omega, by omega, by omega, fun i hi => ?_⟩
    rw [List.getElem_drop]
    have := h7 (n + i) (by omega)
    rw [← this]
    congr 1
    omega
theorem append_at (a n c : List Value) (o k i : Nat) (ha : a.length = o + k) (hi : i < k + n.length) : (a ++ n ++ c)[o + i]? = if i < k then a[o + i]? else n[i - k]? := by
  by_cases h : i < k
  · rw [if_pos h, List.append_assoc, List.getElem?_append_left (by omega)]
  · rw [if_neg h, List.append_assoc, List.getElem?_append_right (by omega), List.getElem?_append_left (by omega)]
    congr 1
    omega
section
variable {P : Program} {w : World}
/-- append onto a row of one's own, from whatever source. -/
theorem run_append_ob (t tx ty : TypeId) (i : TypeInfo) (z : Value) (ht : P.underlying t = some (.slice 5)) (hi : P.info? 5 = some i) (hz : i.zero = some z)
    (hsize : i.size = 1) (hby : i.bytes = 1) (hzs : z.cells.size = 1)
    (v : Value) (g : Option Nat) (bs : List UInt8) (hown : Ob w v g bs) (x : Value) (m : Nat) (xs : List UInt8) (hs : Src P 1 tx x m (bv xs) w)
    (h63 : bs.length + m ≤ 140737488355328) :
    ∃ v' w' g', (Builtin.append_ #[t, tx] ty #[v, x]).run P w = .ok v' w' ∧ Ob w' v' g' (bs ++ xs) ∧ Chg (fun k => some k = g) w w' ∧ (g' = g ∨ g' = some w.heap.size) := by
  have hl : xs.length = m := by have := hs.newsLen; rw [bv_length] at this; omega
  have hlen : (bs ++ xs).length = bs.length + m := by rw [List.length_append, hl]
  have grown : ∀ (old : Nat), old < bs.length + m → 
      Ob (w.drew.alloc (.cells ((bv bs ++ bv xs).toArray ++ Builtin.zeroCells z.cells (grownCap w (bs.length + m) old 5 - (bs.length + m))) 5)) (.slice (some ⟨w.heap.size, 0, none⟩) (bs.length + m) (grownCap w (bs.length + m) old 5)) (some w.heap.size) (bs ++ xs) ∧
      ∀ S, Chg S w (w.drew.alloc (.cells ((bv bs ++ bv xs).toArray ++ Builtin.zeroCells z.cells (grownCap w (bs.length + m) old 5 - (bs.length + m))) 5)) := by
    intro old ho
    have hge := grownCap_ge w (bs.length + m) old 5
    have hcm : grownCap w (bs.length + m) old 5 ≤ maxLen := grownCap_le_maxLen w (bs.length + m) old 5 (by unfold maxLen; omega)
    refine ⟨.inr ⟨w.heap.size, 0, _, _, by rw [hlen], rfl, heap_alloc_new w.drew _, by omega, hcm, ?_, ?_⟩, fun S => ⟨rfl, rfl, rfl, by simp, fun k hk _ => Below.heap_alloc w.drew _ k hk⟩⟩
    · simp only [Array.size_append, List.size_toArray, size_zeroCells, hzs, List.length_append, bv_length]
      omega
    · intro j hj
      rw [Nat.zero_add, Array.getElem?_append_left (by simp [bv_length] at hj ⊢; omega)]
      rw [← bv_append]
      simpa using bv_at (bs ++ xs) j hj
  rcases hown with ⟨rfl, rfl, rfl⟩ | ⟨b, o, cap, cur, rfl, rfl, h3, h4, h5, h6, h7⟩
  · by_cases hm : m = 0
    · subst hm
      have hx : xs = [] := List.eq_nil_of_length_eq_zero hl
      subst hx
      have hcl := hs.cells
      refine ⟨.slice none 0 0, w, none, ?_, .inl ⟨rfl, rfl, rfl⟩, Chg.refl _ _, .inl rfl⟩
      rcases hs.kind with ⟨e', hk⟩ | hk <;> simp [Builtin.append_, run_underlying ht, run_underlying hk, sizeOf, typeInfo, hi, hsize, hs.len, hcl, bv]
    · have hs' : Src P i.size tx x m (bv xs) w := by rw [hsize]; exact hs
      have hr := run_append_grow_src (P := P) w t tx ty 5 i z ht hi hz none 0 0 [] (run_firstCells_none w.drew i.size 0 0 0) x m (bv xs) hs' (by omega) (by simp at h63; omega) (growslice_fits (by omega) (by rw [hby]; simp at h63; omega))
      have hgr := grown 0 (by simp; omega)
      simp only [List.length_nil] at hgr
      exact ⟨_, _, _, hr, hgr.1, hgr.2 _, .inr rfl⟩
  · by_cases hroom : bs.length + m ≤ cap
    · have hst := run_storeCells_at P b (o + bs.length) 5 (bv xs) 0 cur w h3 (by rw [bv_length]; omega) hs.one
      simp only [Nat.add_zero] at hst
      have hs' : Src P i.size tx x m (bv xs) w := by rw [hsize]; exact hs
      refine ⟨.slice (some ⟨b, o, none⟩) (bs.length + m) cap, w.setRow b (cur.toList.take (o + bs.length) ++ bv xs ++ cur.toList.drop (o + bs.length + (bv xs).length)).toArray, some b, ?_, .inr ⟨b, o, cap, _, by rw [hlen], rfl, setRow_heap w b cur _ 5 _ h3, by omega, h5, ?_, fun j hj => ?_⟩, ⟨rfl, rfl, rfl, by simp, fun k _ hk => setRow_other w b k _ (fun e => hk (by rw [e]))⟩, .inl rfl⟩
      · rcases hs'.kind with ⟨e', hk⟩ | hk <;> simp [Builtin.append_, run_underlying ht, run_underlying hk, sizeOf, typeInfo, hi, hsize, hs.len, hroom, hs.cells, Addr.add_lit, hst]
      · simp only [List.size_toArray, List.length_append, List.length_take, List.length_drop, Array.length_toList, bv_length]
        omega
      · rw [List.getElem?_toArray, append_at _ _ _ o bs.length j (by simp; omega) (by rw [bv_length]; omega)]
        by_cases hjb : j < bs.length
        · rw [if_pos hjb, List.getElem?_take_of_lt (by omega), List.getElem_append_left hjb]
          simpa using h7 j hjb
        · rw [if_neg hjb, List.getElem_append_right (by omega)]
          exact bv_at xs _ _
    · have holds : ∀ j u, (bv bs)[j]? = some u → w.drew.cell? ((⟨b, o, none⟩ : Addr).add j) = some u := by
        intro j u hu
        have hjl : j < bs.length := by rcases Nat.lt_or_ge j (bv bs).length with h | h; · rwa [bv_length] at h
                                       · rw [List.getElem?_eq_none h] at hu; cases hu
        rw [bv_at bs j hjl] at hu
        cases hu
        rw [Addr.add_lit]
        have e : w.cell? ⟨b, o + j, none⟩ = some (.int .u8 (bs[j].toNat : Int)) := by simp [World.cell?, h3, h7 j hjl]
        exact e
      have hs' : Src P i.size tx x m (bv xs) w := by rw [hsize]; exact hs
      have hr := run_append_grow_src (P := P) w t tx ty 5 i z ht hi hz (some ⟨b, o, none⟩) bs.length cap (bv bs) (run_firstCells_some w.drew i.size bs.length ⟨b, o, none⟩ bs.length cap (bv bs) (by rw [hsize, bv_length]; omega) holds) x m (bv xs) hs' (by omega) (by omega) (growslice_fits (by omega) (by rw [hby]; omega))
      have hgr := grown cap (by omega)
      exact ⟨_, _, _, hr, hgr.1, hgr.2 _, .inr rfl⟩
/-- At the operation: what the append's run is known to be. -/
theorem wpList_append_run {ops : Array Oper} {rest : List Oper} {o : Oper} {a : Act} {Q : Exit → Act → World → Prop} (hgd : o.guard = none) (s x : Operand) (t tx : TypeId)
    (ho : o.op = .call { callee := .builtin .append, args := #[s, x], argTypes := #[t, tx] })
    (v xv : Value) (hv : a.eval s = v) (hx : a.eval x = xv) {v' : Value} {w' : World} (hr : (Builtin.append_ #[t, tx] o.type #[v, xv]).run P w = .ok v' w')
    (h : wpList P ops Q rest (a.put o.dst v') w') : wpList P ops Q (o :: rest) a w := by
  refine wpList_plain hgd fun K hK' => ?_
  unfold Oper.wp execOp
  simp only [ho, resolve, invoke, builtin, Sem.run_bind, Sem.run_pure, Result.andThen_ok, List.map_toArray, List.map_cons, List.map_nil, hv, hx, hr]
  exact hK' _ _ h
end
end Go.Proofs.Ytecgjfghofpjcaa
