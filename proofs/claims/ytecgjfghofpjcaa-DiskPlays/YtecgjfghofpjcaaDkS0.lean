/-
  What DiskSure keeps of a disk, from call to call: of no walk.
-/
import Derived.Test.YtecgjfghofpjcaaDkBk
import Derived.Test.YtecgjfghofpjcaaDkRt
namespace Go.Proofs.Ytecgjfghofpjcaa
open Go.RowKit Go.Maps

structure Sure (A b : List UInt8) (d : Dk) (M : List UInt8) : Prop where
  count : d.count = 8
  most : d.lo.most = 1048576
  base : d.lo.base = 0
  sure : d.lo.sure = A.length
  bytes : d.lo.bytes = A ++ M
  old : d.old 7 = some b
  fresh : d.fresh 7 = none
theorem Sure.burnt {A b : List UInt8} {d : Dk} {M : List UInt8} (h : Sure A b d M) : Sure A b d.burnt M := ⟨h.count, h.most, h.base, h.sure, h.bytes, h.old, h.fresh⟩
theorem Sure.fuse {A b : List UInt8} {d : Dk} {M : List UInt8} (h : Sure A b d M) (k : Int) : Sure A b { d with left := k } M := ⟨h.count, h.most, h.base, h.sure, h.bytes, h.old, h.fresh⟩
/-- Behind an Append. -/
theorem Sure.app {A b : List UInt8} {d : Dk} {M : List UInt8} (h : Sure A b d M) (xs : List UInt8) : ((d.app xs).2.1 = 0 ∧ Sure A b (d.app xs).2.2 (M ++ xs)) ∨ ((d.app xs).2.1 ≠ 0 ∧ Sure A b (d.app xs).2.2 M) := by
  unfold Dk.app
  by_cases h1 : d.off = true
  · rw [if_pos h1]; exact .inr ⟨by simp, h⟩
  · rw [if_neg h1]
    by_cases h2 : ¬ ((d.lo.bytes.length : Int) + xs.length ≤ d.lo.most)
    · rw [if_pos h2]; exact .inr ⟨by simp, h⟩
    · rw [if_neg h2]
      by_cases h3 : d.left = 0
      · rw [if_pos h3]; exact .inr ⟨by simp, h.burnt⟩
      · rw [if_neg h3]
        exact .inl ⟨rfl, ⟨h.count, h.most, h.base, h.sure, by show d.lo.bytes ++ xs = _; rw [h.bytes, List.append_assoc], h.old, h.fresh⟩⟩
theorem Sure.write {A b : List UInt8} {d : Dk} {M : List UInt8} (h : Sure A b d M) (page : Int) (hp : page ≠ 7) (r : List UInt8) : Sure A b (d.write page r).2 M := by
  unfold Dk.write
  by_cases h1 : d.off = true
  · rw [if_pos h1]; exact h
  · rw [if_neg h1]
    split
    · exact h
    · split
      · exact h.burnt
      · exact ⟨h.count, h.most, h.base, h.sure, h.bytes, h.old, by show put d.fresh page r 7 = none; unfold put; rw [if_neg (fun e => hp e.symm)]; exact h.fresh⟩
theorem crashTo_off (ks fs : List Int) (fresh old : Pf) (x : Int) (hx : x ∉ ks) : ∀ k, crashTo ks fs fresh old k x = old x := by
  intro k
  induction k with
  | zero => rfl
  | succ k ih =>
    unfold crashTo
    cases hk : ks[k]? with
    | none => exact ih
    | some y =>
      have hy : y ≠ x := fun e => hx (by rw [← e]; exact List.mem_of_getElem? hk)
      dsimp only
      split
      · unfold put; rw [if_neg (fun e => hy e.symm)]; exact ih
      · split
        · unfold put; rw [if_neg (fun e => hy e.symm)]; exact ih
        · exact ih
theorem Sure.crashed {A b : List UInt8} {d : Dk} {M : List UInt8} (h : Sure A b d M) {fs : List Int} {old' : Pf} (hc : Crashed d.fresh d.old fs old') : old' 7 = some b := by
  obtain ⟨ks, hk, rfl⟩ := hc
  rw [crashTo_off ks fs d.fresh d.old 7 (fun hm => by have := ((hk.2 7).1 hm).2; rw [h.fresh] at this; cases this)]
  exact h.old
/-- What of the appended bytes is there behind a crash. -/
def tail (M : List UInt8) (keep : Int) (torn : Bool) : List UInt8 :=
  let t := M.take (max keep 0).toNat
  if torn = true ∧ 0 < t.length then t.modify (t.length - 1) flip else t
theorem tail_len (M : List UInt8) (keep : Int) (torn : Bool) : (tail M keep torn).length = min (max keep 0).toNat M.length := by
  unfold tail
  dsimp only
  split <;> simp
theorem Sure.left {A b : List UInt8} {d : Dk} {M : List UInt8} (h : Sure A b d M) (keep : Int) (torn : Bool) : d.lo.left keep torn = A ++ tail M keep torn := by
  have hs : d.lo.stay keep = min (max keep 0).toNat M.length := by
    unfold Lo.stay
    rw [h.bytes, h.sure, List.length_append]
    omega
  have ht : (d.lo.bytes.take (d.lo.sure + d.lo.stay keep)) = A ++ M.take (max keep 0).toNat := by
    rw [h.bytes, h.sure, hs, List.take_append, List.take_of_length_le (by omega), Nat.add_sub_cancel_left]
    congr 1
    rcases Nat.le_total (max keep 0).toNat M.length with q | q
    · rw [Nat.min_eq_left q]
    · rw [Nat.min_eq_right q, List.take_of_length_le (Nat.le_refl _), List.take_of_length_le q]
  have htl : (M.take (max keep 0).toNat).length = d.lo.stay keep := by rw [hs, List.length_take]
  unfold Lo.left tail
  dsimp only
  rw [ht, htl]
  by_cases c : torn = true ∧ 0 < d.lo.stay keep
  · rw [if_pos c, if_pos c, List.length_append, htl]
    have c2 := c.2
    generalize M.take (max keep 0).toNat = T at *
    apply List.ext_getElem?
    intro i
    rw [List.getElem?_modify]
    by_cases hi : i < A.length
    · rw [List.getElem?_append_left hi, List.getElem?_append_left hi]
      have hne : ¬ (A.length + d.lo.stay keep - 1 = i) := by omega
      simp [hne]
    · rw [List.getElem?_append_right (by omega), List.getElem?_append_right (by omega), List.getElem?_modify]
      by_cases he : A.length + d.lo.stay keep - 1 = i
      · have he2 : d.lo.stay keep - 1 = i - A.length := by omega
        simp [he, he2]
      · have he2 : ¬ (d.lo.stay keep - 1 = i - A.length) := by omega
        simp [he, he2]
  · rw [if_neg c, if_neg c]
/-- But for the torn byte it is what was appended. -/
theorem tail_at (M : List UInt8) (keep : Int) (torn : Bool) (i : Nat) (hi : i < (tail M keep torn).length) : i < M.length ∧ (¬ (torn = true ∧ i + 1 = (tail M keep torn).length) → (tail M keep torn)[i]? = M[i]?) := by
  have hl := tail_len M keep torn
  refine ⟨by omega, fun hn => ?_⟩
  rw [hl] at hn hi
  unfold tail
  dsimp only
  split
  · rename_i c
    have c1 := c.1
    have hne : ¬ ((M.take (max keep 0).toNat).length - 1 = i) := by
      rw [List.length_take]
      intro e
      exact hn ⟨c1, by omega⟩
    rw [List.getElem?_modify]
    simp only [hne, if_false]
    rw [List.getElem?_take_of_lt (by omega)]
    simp
  · rw [List.getElem?_take_of_lt (by omega)]
/-- A block that is none of the disk's. -/
def Ap (w : World) (h : Wh) (k : Nat) : Prop := k < w.heap.size ∧ ¬ h.has k
theorem Ap.size {w w' : World} {h : Wh} {k : Nat} (a : Ap w h k) (hs : w.heap.size ≤ w'.heap.size) : Ap w' h k := ⟨Nat.lt_of_lt_of_le a.1 hs, a.2⟩
theorem Ap.g {w w' : World} {h : Wh} {k : Nat} (a : Ap w h k) (hs : w.heap.size ≤ w'.heap.size) {g : Option Nat} (hg : g = h.g ∨ ∃ b, g = some b ∧ w.heap.size ≤ b) : Ap w' { h with g := g } k := ⟨Nat.lt_of_lt_of_le a.1 hs, fun hb => by
  have a1 := a.1
  rcases hb with e | e | e | e | e | e | e
  · exact a.2 (.inl e)
  · exact a.2 (.inr (.inl e))
  · exact a.2 (.inr (.inr (.inl e)))
  · exact a.2 (.inr (.inr (.inr (.inl e))))
  · exact a.2 (.inr (.inr (.inr (.inr (.inl e)))))
  · exact a.2 (.inr (.inr (.inr (.inr (.inr (.inl e))))))
  · dsimp only at e
    rcases hg with q | ⟨b, q, q2⟩
    · exact a.2 (.inr (.inr (.inr (.inr (.inr (.inr (by rw [e, q])))))))
    · rw [q] at e; cases e; omega⟩
theorem Ap.mf {w w' : World} {h : Wh} {k : Nat} (a : Ap w h k) (hs : w.heap.size ≤ w'.heap.size) {m : Nat} (hm : m = h.mf ∨ w.heap.size ≤ m) : Ap w' { h with mf := m } k := ⟨Nat.lt_of_lt_of_le a.1 hs, fun hb => by
  have a1 := a.1
  rcases hb with e | e | e | e | e | e | e
  · exact a.2 (.inl e)
  · exact a.2 (.inr (.inl e))
  · exact a.2 (.inr (.inr (.inl e)))
  · exact a.2 (.inr (.inr (.inr (.inl e))))
  · exact a.2 (.inr (.inr (.inr (.inr (.inl e)))))
  · dsimp only at e
    rcases hm with q | q
    · exact a.2 (.inr (.inr (.inr (.inr (.inr (.inl (by rw [e, q])))))))
    · omega
  · exact a.2 (.inr (.inr (.inr (.inr (.inr (.inr e))))))⟩
theorem dk_write (lo : Lo) (r : List UInt8) (hr : r.length = 512) : (dk lo 8 none').write 7 r = (0, ⟨lo, 8, none', put none' 7 r, false, -1⟩) := by
  unfold Dk.write
  rw [if_neg (by simp [dk]), if_neg (by rw [hr]; simp [dk, Dk.hasP]), if_neg (by simp [dk])]
  rfl
theorem sync_first (lo : Lo) (r : List UInt8) : Dk.sync ⟨lo, 8, none', put none' 7 r, false, -1⟩ = (0, dk { lo with sure := lo.bytes.length } 8 (over (put none' 7 r) none')) := by
  unfold Dk.sync
  rw [if_neg (by simp), if_neg (by simp)]
  rfl
theorem sure_first (A r : List UInt8) : Sure A r (dk ⟨1048576, 0, A, A.length⟩ 8 (over (put none' 7 r) none')) [] :=
  ⟨rfl, rfl, rfl, rfl, by simp [dk], rfl, rfl⟩
/-- What holds at the head of DiskSure's loop. -/
structure SI (w wr : World) (A bB : List UInt8) (gb hB i : Nat) (M : List UInt8) (mv : Value) (gm : Option Nat) (h : Wh) (no nf : Nat) (d : Dk) : Prop where
  hB : h.B = hB
  len : M.length ≤ 1000 * i
  dk : DkW wr h no nf d
  su : Sure A bB d M
  fin : Fin w h wr
  ap : Ap wr h gb
  nn : no + nf ≤ 1 + i
  rb : Rd wr (some ⟨gb, 0, none⟩) 512 512 bB
  ob : Ob wr mv gm M
  gm : ∀ b, gm = some b → Ap wr h b ∧ w.heap.size ≤ b ∧ b ≠ gb
theorem SI.later {w wr wr' : World} {A bB : List UInt8} {gb hB i : Nat} {M : List UInt8} {mv : Value} {gm : Option Nat} {h : Wh} {no nf : Nat} {d : Dk} (s : SI w wr A bB gb hB i M mv gm h no nf d) (hb : Below wr.heap.size wr wr') : SI w wr' A bB gb hB i M mv gm h no nf d :=
  ⟨s.hB, s.len, s.dk.later hb, s.su, s.fin.later hb, s.ap.size hb.size, s.nn, s.rb.later hb, s.ob.kept (fun b e => hb.block b (s.ob.lt e)), fun b e => ⟨(s.gm b e).1.size hb.size, (s.gm b e).2⟩⟩
/-- Behind an operation on the disk. -/
theorem SI.step {w wr wr' : World} {A bB : List UInt8} {gb hB i : Nat} {M : List UInt8} {mv : Value} {gm : Option Nat} {h : Wh} {no nf nf' : Nat} {d d' : Dk} (s : SI w wr A bB gb hB i M mv gm h no nf d) (hC : Chg h.has wr wr') (hd : DkW wr' h no nf' d') (su : Sure A bB d' M) (_hn : nf' ≤ nf + 1) (hf : no + nf' ≤ 1 + i) : SI w wr' A bB gb hB i M mv gm h no nf' d' :=
  ⟨s.hB, s.len, hd, su, s.fin.step hC, s.ap.size hC.size, hf, s.rb.chg hC (fun _ b off e => by cases e; exact s.ap.2), s.ob.kept (fun b e => hC.block b (s.ob.lt e) (s.gm b e).1.2), fun b e => ⟨(s.gm b e).1.size hC.size, (s.gm b e).2⟩⟩
/-- Behind one that may have laid the log's bytes anew. -/
theorem SI.stepG {w wr wr' : World} {A bB : List UInt8} {gb hB i : Nat} {M : List UInt8} {mv : Value} {gm : Option Nat} {h : Wh} {no nf : Nat} {d d' : Dk} (s : SI w wr A bB gb hB i M mv gm h no nf d) {g' : Option Nat} (hC : Chg h.has wr wr') (hd : DkW wr' { h with g := g' } no nf d') (hg : g' = h.g ∨ ∃ b, g' = some b ∧ wr.heap.size ≤ b) (M' : List UInt8) (su : Sure A bB d' M') : 
    DkW wr' { h with g := g' } no nf d' ∧ Sure A bB d' M' ∧ Fin w { h with g := g' } wr' ∧ Ap wr' { h with g := g' } gb ∧ Rd wr' (some ⟨gb, 0, none⟩) 512 512 bB ∧ Ob wr' mv gm M ∧ ∀ b, gm = some b → Ap wr' { h with g := g' } b ∧ w.heap.size ≤ b ∧ b ≠ gb :=
  ⟨hd, su, (s.fin.step hC).g (hg.elim .inl (fun ⟨b, e1, e2⟩ => .inr ⟨b, e1, Nat.le_trans s.fin.b.size e2⟩)), s.ap.g hC.size hg, s.rb.chg hC (fun _ b off e => by cases e; exact s.ap.2), s.ob.kept (fun b e => hC.block b (s.ob.lt e) (s.gm b e).1.2), fun b e => ⟨(s.gm b e).1.g hC.size hg, (s.gm b e).2⟩⟩
theorem SI.appended {w wr wr' : World} {A bB : List UInt8} {gb hB i : Nat} {M : List UInt8} {mv : Value} {gm : Option Nat} {h : Wh} {no nf : Nat} {d d' : Dk} (s : SI w wr A bB gb hB i M mv gm h no nf d) {g' : Option Nat} (hC : Chg h.has wr wr') (hd : DkW wr' { h with g := g' } no nf d') (hg : g' = h.g ∨ ∃ b, g' = some b ∧ wr.heap.size ≤ b) (su : Sure A bB d' M) : SI w wr' A bB gb hB i M mv gm { h with g := g' } no nf d' := by
  obtain ⟨a1, a2, a3, a4, a5, a6, a7⟩ := s.stepG hC hd hg M su
  exact ⟨s.hB, s.len, a1, a2, a3, a4, s.nn, a5, a6, a7⟩
/-- Behind an append that is told, and the law's own append onto 'more'. -/
theorem SI.more {w wr wr' w9 : World} {A bB : List UInt8} {gb hB i : Nat} {M : List UInt8} {mv mv' : Value} {gm gm' : Option Nat} {h : Wh} {no nf : Nat} {d d' : Dk} (s : SI w wr A bB gb hB i M mv gm h no nf d) {g' : Option Nat} (hC : Chg h.has wr wr') (hd : DkW wr' { h with g := g' } no nf d') (hg : g' = h.g ∨ ∃ b, g' = some b ∧ wr.heap.size ≤ b) (xs : List UInt8) (hx : xs.length ≤ 1000) (su : Sure A bB d' (M ++ xs))
    (ho : Ob w9 mv' gm' (M ++ xs)) (hC9 : Chg (fun k => some k = gm) wr' w9) (hgm : gm' = gm ∨ gm' = some wr'.heap.size) : SI w w9 A bB gb hB (i + 1) (M ++ xs) mv' gm' { h with g := g' } no nf d' := by
  obtain ⟨a1, a2, a3, a4, a5, a6, a7⟩ := s.stepG hC hd hg (M ++ xs) su
  have hsz := hC9.size
  refine ⟨s.hB, by have := s.len; rw [List.length_append]; omega, a1.kept (fun k hk => hC9.block k (a1.lt hk) (fun e => (a7 k e.symm).1.2 hk)), a2, ⟨a3.b.trans (hC9.below a3.b.size (fun k e => (a7 k e.symm).2.1)), a3.ge⟩, a4.size hsz, by have := s.nn; omega, a5.chg hC9 (fun _ b off e => by cases e; exact fun e => (a7 gb e.symm).2.2 rfl), ho, fun b e => ?_⟩
  rcases hgm with q | q
  · rw [q] at e
    exact ⟨(a7 b e).1.size hsz, (a7 b e).2⟩
  · rw [q] at e
    cases e
    exact ⟨⟨ho.lt q, fun hb => by have := a1.lt hb; omega⟩, a3.b.size, fun e => by have := a4.1; omega⟩
theorem SI.next {w wr : World} {A bB : List UInt8} {gb hB i : Nat} {M : List UInt8} {mv : Value} {gm : Option Nat} {h : Wh} {no nf : Nat} {d : Dk} (s : SI w wr A bB gb hB i M mv gm h no nf d) : SI w wr A bB gb hB (i + 1) M mv gm h no nf d :=
  ⟨s.hB, by have := s.len; omega, s.dk, s.su, s.fin, s.ap, by have := s.nn; omega, s.rb, s.ob, s.gm⟩
def Dk.after (d : Dk) (keep : Int) (torn : Bool) (old' : Pf) : Dk := { d with lo := d.lo.crash keep torn, old := old', fresh := none', off := false, left := -1 }
theorem Sure.read0 {A b : List UInt8} {d : Dk} {M : List UInt8} (h : Sure A b d M) (keep : Int) (torn : Bool) (old' : Pf) (hl : A.length + M.length ≤ 16777216) : (d.after keep torn old').read 0 = (0, A ++ tail M keep torn) := by
  have e1 : (d.lo.crash keep torn).bytes = A ++ tail M keep torn := h.left keep torn
  have e2 : (d.lo.crash keep torn).base = 0 := h.base
  have hh : (d.lo.crash keep torn).has 0 = true := by
    rw [lo_has _ (by omega) (by omega) (by rw [e1, List.length_append, tail_len]; omega), e2]
    simp only [Bool.and_eq_true, decide_eq_true_eq]
    omega
  unfold Dk.read
  rw [if_neg (by simp [Dk.after]), if_neg (by show ¬ (d.lo.crash keep torn).has 0 = false; rw [hh]; simp)]
  show (0, (d.lo.crash keep torn).bytes.drop (0 - (d.lo.crash keep torn).base).toNat) = _
  rw [e1, e2]
  rfl
theorem Sure.load7 {A b : List UInt8} {d : Dk} {M : List UInt8} (h : Sure A b d M) (keep : Int) (torn : Bool) (old' : Pf) (ho : old' 7 = some b) : (d.after keep torn old').load 7 = (0, b) := by
  unfold Dk.load
  rw [if_neg (by simp [Dk.after]), if_neg (by simp [Dk.after, Dk.hasP, h.count])]
  show (0, (over none' old' 7).getD z512) = _
  unfold over none'
  rw [ho]
  rfl
theorem Fs.later {w w' : World} {fa : Option Addr} {fn : Nat} {fs : List Int} (h : Fs w fa fn fs) (hb : Below w.heap.size w w') : Fs w' fa fn fs := by
  refine ⟨h.1, fun hp => ?_⟩
  obtain ⟨b, off, e, hc⟩ := h.2 hp
  exact ⟨b, off, e, fun j hj => (hb.cell (p := ⟨b, off + j, none⟩) (World.block_lt_of_cell? w _ (hc j hj))).trans (hc j hj)⟩
/-- x[f:]. -/
theorem slice_lo {w : World} {ao : Option Addr} {n cap : Nat} {A : List UInt8} (hr : Rd w ao n cap A) (f : Nat) (hfn : f ≤ n) :
    ∃ x : Option Addr, (∀ W, (Instr.slice 32 (.slice ao n cap) (some (.int .i64 (f : Int))) none none).run Try.prog W = .ok (.slice x (n - f) (cap - f)) W) ∧ ∀ W, Rd W ao n cap A → Rd W x (n - f) (cap - f) (A.drop f) := by
  have hcap := hr.2.1
  have hal := hr.1
  obtain ⟨x, hx⟩ : ∃ x : Option Addr, x = match ao with | none => none | some a => if cap - f = 0 then some a else some (a.add f) := ⟨_, rfl⟩
  refine ⟨x, fun W => ?_, fun W hW => ?_⟩
  · cases ao with
    | none =>
      obtain ⟨rfl, rfl⟩ := hr.2.2.2.1 rfl
      obtain rfl : f = 0 := by omega
      subst hx
      simp [Instr.slice, Instr.sliceBounds, Instr.sliceBound, asIntOf, run_underlying Try.underlying32]
    | some a =>
      dsimp only at hx
      by_cases hc : cap - f = 0
      · rw [if_pos hc] at hx
        subst hx
        obtain rfl : n = f := by omega
        obtain rfl : cap = n := by omega
        simp [Instr.slice, Instr.sliceBounds, Instr.sliceBound, asIntOf, run_underlying Try.underlying32]
      · rw [if_neg hc] at hx
        subst hx
        have hcf : ¬ cap = f := by omega
        simp [Instr.slice, Instr.sliceBounds, Instr.sliceBound, asIntOf, run_underlying Try.underlying32, hfn, hcf]
  · refine ⟨by simp; omega, by omega, by have := hW.2.2.1; omega, fun e => ?_, fun hp => ?_⟩
    · cases ao with
      | none => obtain ⟨rfl, rfl⟩ := hr.2.2.2.1 rfl; omega
      | some a => dsimp only at hx; split at hx <;> rw [hx] at e <;> cases e
    · obtain ⟨b, off, rfl, hc⟩ := hW.2.2.2.2 (by omega)
      dsimp only at hx
      rw [if_neg (by omega), Addr.add_lit] at hx
      refine ⟨b, off + f, hx, fun i hi => ?_⟩
      have hi2 : f + i < A.length := by simp at hi; omega
      have := hc (f + i) hi2
      rw [show off + f + i = off + (f + i) by omega, this]
      congr 2
      simp
/-- x[:t]. -/
theorem slice_hi {w : World} {ao : Option Addr} {n cap : Nat} {A : List UInt8} (hr : Rd w ao n cap A) (t : Nat) (htn : t ≤ n) :
    (∀ W, (Instr.slice 32 (.slice ao n cap) none (some (.int .i64 (t : Int))) none).run Try.prog W = .ok (.slice ao t cap) W) ∧ ∀ W, Rd W ao n cap A → Rd W ao t cap (A.take t) := by
  have hcap := hr.2.1
  have hal := hr.1
  have h1 : t ≤ cap := by omega
  refine ⟨fun W => ?_, fun W hW => ?_⟩
  · cases ao with
    | none =>
      obtain ⟨rfl, rfl⟩ := hr.2.2.2.1 rfl
      obtain rfl : t = 0 := by omega
      simp [Instr.slice, Instr.sliceBounds, Instr.sliceBound, asIntOf, run_underlying Try.underlying32]
    | some a =>
      simp [Instr.slice, Instr.sliceBounds, Instr.sliceBound, asIntOf, run_underlying Try.underlying32, h1]
      try (intro _; unfold Addr.add; split <;> simp_all)
  · refine ⟨by simp; omega, h1, hW.2.2.1, fun e => ⟨by have := (hW.2.2.2.1 e).1; omega, (hW.2.2.2.1 e).2⟩, fun hp => ?_⟩
    obtain ⟨b, off, e, hc⟩ := hW.2.2.2.2 (by omega)
    refine ⟨b, off, e, fun i hi => ?_⟩
    rw [List.getElem_take]
    exact hc i (by simp at hi; omega)
end Go.Proofs.Ytecgjfghofpjcaa
