/-
  The walk of DiskPlays.
-/
import Derived.Test.YtecgjfghofpjcaaDpX
import Derived.Test.YtecgjfghofpjcaaDpF
namespace Go.Proofs.Ytecgjfghofpjcaa
open Go.RowKit Go.Maps

/-- A pair of disks, of the law's own making. -/
def Side (w0 w : World) (pB pR n : Nat) (S : Nat → Prop) : Prop := ∃ h r no nf no' nf' d, Pr w h r no nf no' nf' n d ∧ h.B = pB ∧ r.R = pR ∧ (∀ x, S x ↔ Sf h r x) ∧ ∀ x, S x → w0.heap.size ≤ x

theorem Side.next {w0 w : World} {pB pR n : Nat} {S : Nat → Prop} (h : Side w0 w pB pR n S) : Side w0 w pB pR (n + 1) S := by
  obtain ⟨h, r, no, nf, no', nf', d, p, e⟩ := h
  exact ⟨h, r, no, nf, no', nf', d, ⟨p.a, p.b, p.c, p.ap, Nat.le_succ_of_le p.n1, by have := p.n2; omega, Nat.le_succ_of_le p.n3⟩, e⟩

theorem Side.lt {w0 w : World} {pB pR n : Nat} {S : Nat → Prop} (h : Side w0 w pB pR n S) {x : Nat} (hx : S x) : x < w.heap.size := by
  obtain ⟨h, r, no, nf, no', nf', d, p, -, -, e, -⟩ := h
  exact p.lt ((e x).1 hx)

theorem Side.apart {w0 w w' : World} {pB pR n : Nat} {S T : Nat → Prop} (h : Side w0 w pB pR n S) (hC : Chg T w w') (hT : ∀ x, S x → ¬ T x) : Side w0 w' pB pR n S := by
  obtain ⟨h, r, no, nf, no', nf', d, p, e1, e2, e3, e4⟩ := h
  exact ⟨h, r, no, nf, no', nf', d, p.apart hC (fun k hk => hT k ((e3 k).2 hk)), e1, e2, e3, e4⟩

theorem Side.later {w0 w w' : World} {pB pR n : Nat} {S : Nat → Prop} (h : Side w0 w pB pR n S) (hb : Below w.heap.size w w') : Side w0 w' pB pR n S := h.apart (chg_of_below (S := fun _ => False) hb) (fun _ _ e => e)

/-- An op that may be, of a size that may be. -/
def OpOk (w : World) (s : Od) : Prop := OdF w s ∧ s.m ≤ 140737488351232 ∧ s.fn * 8 ≤ 140737488351232

theorem side_step (w0 w : World) (pB pR n : Nat) (S : Nat → Prop) (s : Od) (h : Side w0 w pB pR n S) (hb : Below w0.heap.size w0 w) (hn : n ≤ 4398046511104) (ho : OpOk w0 s) :
    Calls Try.prog 8 #[.pointer (some ⟨pB, 0, none⟩), .pointer (some ⟨pR, 0, none⟩), .agg s.cells] w fun e w' => e = .returned (.bool true) ∧ ∃ S', Side w0 w' pB pR (n + 1) S' ∧ Chg S w w' ∧ (∀ x, S' x → S x ∨ w.heap.size ≤ x) ∧ Below w0.heap.size w0 w' := by
  obtain ⟨h, r, no, nf, no', nf', d, p, rfl, rfl, e3, e4⟩ := h
  obtain ⟨⟨hr, hk, hwn, zs, hz, hfc, hfo⟩, hm, hfm⟩ := ho
  have q := step_any h r no nf no' nf' n d s.kd s.n s.ao s.m s.cap s.torn s.fo s.fn s.fc s.B zs w p hn (hr.later hb) (hz.chg (chg_of_below (S := fun _ => False) hb) (fun _ _ _ _ e => e)) hfc hwn hm hfm
    (fun hp b off e => by
      obtain ⟨b', off', e', hc⟩ := hr.2.2.2.2 hp
      rw [e'] at e
      cases e
      have h9 : b < w0.heap.size := World.block_lt_of_cell? w0 _ (hc 0 (by have := hr.1; omega))
      exact ⟨fun hs => by have := e4 b ((e3 b).2 hs); omega, Nat.lt_of_lt_of_le h9 hb.size⟩)
    (fun hp b off e => by
      obtain ⟨b', off', e', hc⟩ := hz.2 hp
      rw [e'] at e
      cases e
      have h9 : b < w0.heap.size := World.block_lt_of_cell? w0 _ (hc 0 (by have := hz.1; omega))
      exact ⟨fun hs => by have := e4 b ((e3 b).2 hs); omega, Nat.lt_of_lt_of_le h9 hb.size⟩)
  refine q.mono ?_
  rintro e w' ⟨he, h2, r2, no2, nf2, no2', nf2', d2, p2, eB, eR, hC, hE⟩
  have hC' : Chg S w w' := hC.mono (fun k _ hk => (e3 k).2 hk)
  refine ⟨he, Sf h2 r2, ⟨h2, r2, no2, nf2, no2', nf2', d2, p2, eB, eR, fun x => Iff.rfl, fun x hx => (hE x hx).elim (fun q => e4 x ((e3 x).2 q)) (fun q => Nat.le_trans hb.size q)⟩, hC', fun x hx => (hE x hx).elim (fun q => .inl ((e3 x).2 q)) .inr, ?_⟩
  exact hb.trans (hC'.below hb.size (fun k hk => e4 k hk))

/-- Both pairs. -/
def Both (w0 w : World) (pB pR qB qR n : Nat) : Prop := ∃ S T, Side w0 w pB pR n S ∧ Side w0 w qB qR n T ∧ (∀ x, S x → ¬ T x) ∧ Below w0.heap.size w0 w

theorem Od.cells5 (s : Od) : s.cells = #[.int .i64 s.kd, .int .i64 s.n, .slice s.ao s.m s.cap, .bool s.torn, .slice s.fo s.fn s.fc] := rfl

theorem both_one (w0 w : World) (pB pR qB qR n : Nat) (s : Od) (h : Both w0 w pB pR qB qR n) (hn : n ≤ 4398046511104) (ho : OpOk w0 s) :
    Calls Try.prog 8 #[.pointer (some ⟨pB, 0, none⟩), .pointer (some ⟨pR, 0, none⟩), .agg #[.int .i64 s.kd, .int .i64 s.n, .slice s.ao s.m s.cap, .bool s.torn, .slice s.fo s.fn s.fc]] w fun e w' => e = .returned (.bool true) ∧ Both w0 w' pB pR qB qR (n + 1) ∧ (∃ S T, Side w0 w' pB pR (n + 1) S ∧ Side w0 w' qB qR n T ∧ (∀ x, S x → ¬ T x) ∧ Below w0.heap.size w0 w') := by
  obtain ⟨S, T, h1, h2, hST, hb⟩ := h
  refine (side_step w0 w pB pR n S s h1 hb hn ho).mono ?_
  rintro e w' ⟨he, S', h1', hC, hE, hb'⟩
  have h2' : Side w0 w' qB qR n T := h2.apart hC (fun x hx hs => hST x hs hx)
  have hST' : ∀ x, S' x → ¬ T x := fun x hx ht => (hE x hx).elim (fun q => hST x q ht) (fun q => by have := h2.lt ht; omega)
  exact ⟨he, ⟨S', T, h1', h2'.next, hST', hb'⟩, S', T, h1', h2', hST', hb'⟩

theorem both_two (w0 w : World) (pB pR qB qR n m : Nat) (s : Od) (h : ∃ S T, Side w0 w pB pR m S ∧ Side w0 w qB qR n T ∧ (∀ x, S x → ¬ T x) ∧ Below w0.heap.size w0 w) (hn : n ≤ 4398046511104) (ho : OpOk w0 s) :
    Calls Try.prog 8 #[.pointer (some ⟨qB, 0, none⟩), .pointer (some ⟨qR, 0, none⟩), .agg #[.int .i64 s.kd, .int .i64 s.n, .slice s.ao s.m s.cap, .bool s.torn, .slice s.fo s.fn s.fc]] w fun e w' => e = .returned (.bool true) ∧ (∃ S T, Side w0 w' pB pR m S ∧ Side w0 w' qB qR (n + 1) T ∧ (∀ x, S x → ¬ T x) ∧ Below w0.heap.size w0 w') := by
  obtain ⟨S, T, h1, h2, hST, hb⟩ := h
  refine (side_step w0 w qB qR n T s h2 hb hn ho).mono ?_
  rintro e w' ⟨he, T', h2', hC, hE, hb'⟩
  have h1' : Side w0 w' pB pR m S := h1.apart hC (fun x hx => hST x hx)
  have hST' : ∀ x, S x → ¬ T' x := fun x hx ht => (hE x ht).elim (fun q => hST x hx q) (fun q => by have := h1.lt hx; omega)
  exact ⟨he, S, T', h1', h2', hST', hb'⟩

/-- Ops, each of a size that may be. -/
def OpsK (w : World) (ao : Option Addr) (ss : List Od) : Prop := OpsF w ao ss ∧ (∀ i (h : i < ss.length), ss[i].m ≤ 140737488351232 ∧ ss[i].fn * 8 ≤ 140737488351232) ∧ ss.length ≤ 2199023255552

/-- An op's cells, where it came in. -/
def OpAt (w0 : World) (ao : Option Addr) (k : Nat) (s : Od) : Prop := OpOk w0 s ∧ ∃ b off, b < w0.heap.size ∧ ao = some ⟨b, off, none⟩ ∧ At5 w0 b (off + k * 5) s

theorem OpsK.at {w : World} {ao : Option Addr} {ss : List Od} (h : OpsK w ao ss) (k : Nat) (hk : k < ss.length) : ∃ s, OpAt w ao k s := by
  obtain ⟨b, off, hb, e, hAt⟩ := h.1.1 (by omega)
  exact ⟨ss[k], ⟨h.1.2 k hk, h.2.1 k hk⟩, b, off, hb, e, hAt k hk⟩

/-- The five cells, later. -/
theorem cells_later {w0 W : World} {b off k : Nat} {s : Od} (hb : b < w0.heap.size) (hAt : At5 w0 b (off + k * 5) s) (hB : Below w0.heap.size w0 W) : W.cell? ⟨b, off + k * 5, none⟩ = some (.int .i64 s.kd) ∧ W.cell? ⟨b, off + k * 5 + 1, none⟩ = some (.int .i64 s.n) ∧ W.cell? ⟨b, off + k * 5 + 2, none⟩ = some (.slice s.ao s.m s.cap) ∧ W.cell? ⟨b, off + k * 5 + 3, none⟩ = some (.bool s.torn) ∧ W.cell? ⟨b, off + k * 5 + 4, none⟩ = some (.slice s.fo s.fn s.fc) :=
  ⟨(hB.cell (p := ⟨b, off + k * 5, none⟩) hb).trans (hAt 0 _ rfl), (hB.cell (p := ⟨b, off + k * 5 + 1, none⟩) hb).trans (hAt 1 _ rfl), (hB.cell (p := ⟨b, off + k * 5 + 2, none⟩) hb).trans (hAt 2 _ rfl), (hB.cell (p := ⟨b, off + k * 5 + 3, none⟩) hb).trans (hAt 3 _ rfl), (hB.cell (p := ⟨b, off + k * 5 + 4, none⟩) hb).trans (hAt 4 _ rfl)⟩

theorem Side.new {w w1 w2 w3 : World} {h : Wh} {r : Rf} {most pages : Int} (h3 : 0 ≤ pages) (h4 : pages ≤ 65536) (a : DkW w1 h 0 0 ⟨⟨most, 0, [], 0⟩, pages, none', none', false, -1⟩) (ha : ∀ k, h.has k → w.heap.size ≤ k) (b12 : Below w1.heap.size w1 w2) (b : RkW w3 r 0 0 ⟨⟨most, 0, [], 0⟩, pages, none', none', false, -1⟩) (hb : ∀ k, r.has k → w2.heap.size ≤ k) (b23 : Below w2.heap.size w2 w3) (hw : w.heap.size ≤ w1.heap.size) : Side w w3 h.B r.R 0 (Sf h r) := by
  have s12 := b12.size
  refine ⟨h, r, 0, 0, 0, 0, _, ⟨(a.later b12).later b23, b, ⟨h3, h4, fun x hx => by cases hx⟩, fun k hk hr => ?_, Nat.le_refl _, Nat.zero_le _, Nat.le_refl _⟩, rfl, rfl, fun x => Iff.rfl, fun x hx => ?_⟩
  · have h1 := a.lt hk
    have h2 := hb k hr
    omega
  · rcases hx with e | e
    · exact ha x e
    · have := hb x e
      omega

set_option maxRecDepth 20000 in
set_option maxHeartbeats 8000000 in
theorem plays_good (most pages : Int) (g1 : 1 ≤ most) (g2 : most ≤ 16777216) (g3 : 0 ≤ pages) (g4 : pages ≤ 65536) (aO : Option Addr) (cO : Nat) (ss : List Od) (aT : Option Addr) (cT : Nat) (tt : List Od) (w : World) (hO : OpsK w aO ss) (hT : OpsK w aT tt) :
    Calls Try.prog 3 #[.int .i64 most, .int .i64 pages, .slice aO ss.length cO, .slice aT tt.length cT] w fun e w' => e = .returned (.bool true) ∧ Below w.heap.size w w' := by
  have HO : Hid (OpsK w aO ss) := hO
  have HT : Hid (OpsK w aT tt) := hT
  obtain ⟨nO, hnO⟩ : ∃ nO, ss.length = nO := ⟨_, rfl⟩
  obtain ⟨nT, hnT⟩ : ∃ nT, tt.length = nT := ⟨_, rfl⟩
  have HN : Hid (ss.length = nO ∧ tt.length = nT ∧ nO ≤ 2199023255552 ∧ nT ≤ 2199023255552) := ⟨hnO, hnT, by rw [← hnO]; exact hO.2.2, by rw [← hnT]; exact hT.2.2⟩
  rw [hnO, hnT]
  clear hO hT hnO hnT
  have CN := New_good most pages g1 g2 g3 g4 w
  have HG : Hid (1 ≤ most ∧ most ≤ 16777216 ∧ 0 ≤ pages ∧ pages ≤ 65536) := ⟨g1, g2, g3, g4⟩
  clear g1 g2 g3 g4
  go_enter Try.func3, Try.ntmps3
  go_upto_region 2 with (go_at_call 4; refine CN.mono ?_; rintro e w1 ⟨h1, rfl, d1, hh1, b1⟩)
  have CN2 := New_good 60 4 (by decide) (by decide) (by decide) (by decide) w1
  clear CN
  go_upto_region 3 with (go_at_call 4; refine CN2.mono ?_; rintro e w2 ⟨h2, rfl, d2, hh2, b2⟩)
  have CR := rNew_good most pages HG.out.1 HG.out.2.1 HG.out.2.2.1 HG.out.2.2.2 w2
  clear CN2
  go_upto_region 4 with (go_at_call 5; refine CR.mono ?_; rintro e w3 ⟨r1, rfl, k1, hk1, b3⟩)
  have CR2 := rNew_good 60 4 (by decide) (by decide) (by decide) (by decide) w3
  clear CR
  go_upto_region 5 with (go_at_call 5; refine CR2.mono ?_; rintro e w4 ⟨r2, rfl, k2, hk2, b4⟩)
  have CK := knows_any w4
  have H4 : Hid (Both w w4 h1.B r1.R h2.B r2.R 0) := by
    have s1 := b1.size
    have s2 := b2.size
    have s3 := b3.size
    have s4 := b4.size
    refine ⟨Sf h1 r1, Sf h2 r2, ?_, ?_, fun x hx hy => ?_, b1.trans ((b2.trans ((b3.trans (b4.mono b3.size)).mono b2.size)).mono b1.size)⟩
    · exact (Side.new HG.out.2.2.1 HG.out.2.2.2 d1 hh1 b2 k1 hk1 b3 b1.size).later b4
    · obtain ⟨x1, x2, x3, x4, x5, x6, x7, p, e1, e2, e3, e4⟩ := Side.new (w := w1) (by decide) (by decide) d2 hh2 b3 k2 hk2 b4 b2.size
      exact ⟨x1, x2, x3, x4, x5, x6, x7, p, e1, e2, e3, fun x hx => Nat.le_trans s1 (e4 x hx)⟩
    · have q1 : x < w3.heap.size := hx.elim (fun e => by have := d1.lt e; omega) (fun e => k1.lt e)
      rcases hx with e | e <;> rcases hy with e' | e'
      · have := d1.lt e; have := hh2 x e'; omega
      · have := hk2 x e'; omega
      · have := d2.lt e'; have := hk1 x e; omega
      · have := hk2 x e'; omega
  obtain ⟨pB, hpB⟩ : ∃ p, p = h1.B := ⟨_, rfl⟩
  obtain ⟨pR, hpR⟩ : ∃ p, p = r1.R := ⟨_, rfl⟩
  obtain ⟨qB, hqB⟩ : ∃ p, p = h2.B := ⟨_, rfl⟩
  obtain ⟨qR, hqR⟩ : ∃ p, p = r2.R := ⟨_, rfl⟩
  rw [← hpB, ← hpR, ← hqB, ← hqR] at H4 ⊢
  clear CR2 d1 hh1 b1 d2 hh2 b2 k1 hk1 b3 k2 hk2 b4 hpB hpR hqB hqR HG
  go_upto_region 7 with (first | (go_at_call 6; refine (num_any _ _).mono ?_; rintro e w' ⟨rfl, hw⟩; obtain rfl : w4 = w' := hw.symm) | (go_at_call 7; refine CK.mono ?_; rintro e w5 ⟨rfl, b5⟩))
  have H5 : Hid (Both w w5 pB pR qB qR 0) := by
    obtain ⟨S, T, x1, x2, x3, x4⟩ := H4.out
    exact ⟨S, T, x1.later b5, x2.later b5, x3, x4.trans (b5.mono x4.size)⟩
  clear b5 CK H4
  go_wp2
  go_loopw [15] (fun s15 wr => ∃ k : Nat, s15 = .int .i64 (k : Int) ∧ Hid ((k ≤ nO ∨ k ≤ nT) ∧ Both w wr pB pR qB qR k)) (fun i _ => max nO nT - (intOf i).toNat)
  case atStart => exact ⟨0, rfl, .inl (Nat.zero_le _), H5.out⟩
  case round =>
    obtain ⟨k, rfl, hH⟩ := hrel
    have hkb : k ≤ 2199023255552 := by have h1 := hH.out.1; have h2 := HN.out; omega
    have hwi : IntKind.i64.wrap ((k : Int) + 1) = ((k + 1 : Nat) : Int) := by rw [IntKind.wrap_i64]; omega
    have HKB : Hid (k ≤ 4398046511104) := by exact (show k ≤ 4398046511104 by omega)
    clear hkb
    by_cases hlo : k < nO
    · have hlo' : (k : Int) < (nO : Int) := by omega
      obtain ⟨s, hs, lb, lo, hlb, rfl, hAt⟩ := HO.out.at k (by rw [HN.out.1]; exact hlo)
      have HME : Hid (max nO nT - ((k : Int) + 1).toNat < max nO nT - ((k : Int)).toNat) := by exact (show max nO nT - ((k : Int) + 1).toNat < max nO nT - ((k : Int)).toNat by omega)
      have hbw : Below w.heap.size w wr := by obtain ⟨_, _, _, _, _, x⟩ := hH.out.2; exact x
      have c0 := (cells_later hlb hAt hbw).1; have c1 := (cells_later hlb hAt hbw).2.1; have c2 := (cells_later hlb hAt hbw).2.2.1; have c3 := (cells_later hlb hAt hbw).2.2.2.1; have c4 := (cells_later hlb hAt hbw).2.2.2.2
      have CS := both_one w wr pB pR qB qR k s hH.out.2 HKB.out hs
      by_cases hlt : k < nT
      · have hlt' : (k : Int) < (nT : Int) := by omega
        have HL : Hid (k + 1 ≤ nO) := hlo
        obtain ⟨t, ht, tb, to2, htb, rfl, hTt⟩ := HT.out.at k (by rw [HN.out.2.1]; exact hlt)
        have HTt : Hid (tb < w.heap.size ∧ At5 w tb (to2 + k * 5) t ∧ OpOk w t) := ⟨htb, hTt, ht⟩
        clear hAt hTt htb hlb hbw hs ht hlo hlt
        go_wp2_with (first
          | (go_at_call_of 8 (Value.pointer (some ⟨pB, 0, none⟩)); refine (CS).mono ?_; rintro e w6 ⟨rfl, -, H6⟩; have HB6 : Hid (Below w.heap.size w w6) := (fun ⟨_, _, _, _, _, x⟩ => x) H6; have t0 := (cells_later HTt.out.1 HTt.out.2.1 HB6.out).1; have t1 := (cells_later HTt.out.1 HTt.out.2.1 HB6.out).2.1; have t2 := (cells_later HTt.out.1 HTt.out.2.1 HB6.out).2.2.1; have t3 := (cells_later HTt.out.1 HTt.out.2.1 HB6.out).2.2.2.1; have t4 := (cells_later HTt.out.1 HTt.out.2.1 HB6.out).2.2.2.2)
          | (go_at_call_of 8 (Value.pointer (some ⟨qB, 0, none⟩)); refine (both_two w w6 pB pR qB qR k (k + 1) t H6 HKB.out HTt.out.2.2).mono ?_; rintro e w7 ⟨rfl, H7⟩))
        have FIN : Hid (Both w w7 pB pR qB qR (k + 1)) := H7
        clear H6 H7 t0 t1 t2 t3 t4
        go_roundw
        case rel => exact ⟨k + 1, rfl, .inl HL.out, FIN.out⟩
        case measure => exact HME.out
      · have hlt' : ¬ (k : Int) < (nT : Int) := by omega
        have HL : Hid (k + 1 ≤ nO) := hlo
        clear hAt hlb hbw hs hlo hlt
        go_wp2_with (go_at_call_of 8 (Value.pointer (some ⟨pB, 0, none⟩)); refine (CS).mono ?_; rintro e w6 ⟨rfl, H6, -⟩)
        have FIN : Hid (Both w w6 pB pR qB qR (k + 1)) := H6
        clear H6
        go_roundw
        case rel => exact ⟨k + 1, rfl, .inl HL.out, FIN.out⟩
        case measure => exact HME.out
    · have hlo' : ¬ (k : Int) < (nO : Int) := by omega
      by_cases hlt : k < nT
      · have hlt' : (k : Int) < (nT : Int) := by omega
        have HME : Hid (max nO nT - ((k : Int) + 1).toNat < max nO nT - ((k : Int)).toNat) := by exact (show max nO nT - ((k : Int) + 1).toNat < max nO nT - ((k : Int)).toNat by omega)
        have HL : Hid (k + 1 ≤ nT) := hlt
        obtain ⟨t, ht, tb, to2, htb, rfl, hTt⟩ := HT.out.at k (by rw [HN.out.2.1]; exact hlt)
        have hbw : Below w.heap.size w wr := by obtain ⟨_, _, _, _, _, x⟩ := hH.out.2; exact x
        have t0 := (cells_later htb hTt hbw).1; have t1 := (cells_later htb hTt hbw).2.1; have t2 := (cells_later htb hTt hbw).2.2.1; have t3 := (cells_later htb hTt hbw).2.2.2.1; have t4 := (cells_later htb hTt hbw).2.2.2.2
        have CT := both_two w wr pB pR qB qR k k t hH.out.2 HKB.out ht
        clear hTt htb ht hlo hlt hbw
        go_wp2_with (go_at_call 8; refine CT.mono ?_; rintro e w7 ⟨rfl, H7⟩)
        have FIN : Hid (Both w w7 pB pR qB qR (k + 1)) := by
          obtain ⟨S, T, x1, x2, x3, x4⟩ := H7
          exact ⟨S, T, x1.next, x2, x3, x4⟩
        clear H7 t0 t1 t2 t3 t4 CT
        go_roundw
        case rel => exact ⟨k + 1, rfl, .inr HL.out, FIN.out⟩
        case measure => exact HME.out
      · have hlt' : ¬ (k : Int) < (nT : Int) := by omega
        have FIN : Hid (Below w.heap.size w wr) := by obtain ⟨_, _, _, _, _, x⟩ := hH.out.2; exact x
        clear hlo hlt
        go_wp2
        go_ret
        exact ⟨rfl, FIN.out⟩

set_option maxRecDepth 20000 in
set_option maxHeartbeats 8000000 in
theorem plays_bad (most pages : Int) (hbad : ¬ (1 ≤ most ∧ most ≤ 16777216 ∧ 0 ≤ pages ∧ pages ≤ 65536)) (aO : Option Addr) (cO : Nat) (ss : List Od) (aT : Option Addr) (cT : Nat) (tt : List Od) (w : World) (hO : OpsK w aO ss) (hT : OpsK w aT tt) :
    Calls Try.prog 3 #[.int .i64 most, .int .i64 pages, .slice aO ss.length cO, .slice aT tt.length cT] w fun e w' => e = .returned (.bool true) ∧ Below w.heap.size w w' := by
  have HO : Hid (OpsK w aO ss) := hO
  have HT : Hid (OpsK w aT tt) := hT
  obtain ⟨nO, hnO⟩ : ∃ nO, ss.length = nO := ⟨_, rfl⟩
  obtain ⟨nT, hnT⟩ : ∃ nT, tt.length = nT := ⟨_, rfl⟩
  have HN : Hid (ss.length = nO ∧ tt.length = nT ∧ nO ≤ 2199023255552 ∧ nT ≤ 2199023255552) := ⟨hnO, hnT, by rw [← hnO]; exact hO.2.2, by rw [← hnT]; exact hT.2.2⟩
  rw [hnO, hnT]
  clear hO hT hnO hnT
  have CN := New_bad most pages hbad w
  have CN2 := New_good 60 4 (by decide) (by decide) (by decide) (by decide) w
  have HBAD : Hid (¬ (1 ≤ most ∧ most ≤ 16777216 ∧ 0 ≤ pages ∧ pages ≤ 65536)) := hbad
  clear hbad
  go_enter Try.func3, Try.ntmps3
  go_upto_region 2 with (go_at_call 4; refine CN.mono ?_; rintro e w' ⟨rfl, hw⟩; obtain rfl : w = w' := hw.symm)
  clear CN
  go_upto_region 3 with (go_at_call 4; refine CN2.mono ?_; rintro e w2 ⟨h2, rfl, d2, hh2, b2⟩)
  have CR := rNew_bad most pages HBAD.out w2
  clear CN2
  go_upto_region 4 with (go_at_call 5; refine CR.mono ?_; rintro e w' ⟨rfl, hw⟩; obtain rfl : w2 = w' := hw.symm)
  have CR2 := rNew_good 60 4 (by decide) (by decide) (by decide) (by decide) w2
  clear CR
  go_upto_region 5 with (go_at_call 5; refine CR2.mono ?_; rintro e w4 ⟨r2, rfl, k2, hk2, b4⟩)
  have CK := knows_any w4
  have H4 : Hid (∃ T, Side w w4 h2.B r2.R 0 T ∧ Below w.heap.size w w4) :=
    ⟨_, Side.new (by decide) (by decide) d2 hh2 (Below.refl _ _) k2 hk2 b4 b2.size, b2.trans (b4.mono b2.size)⟩
  obtain ⟨qB, hqB⟩ : ∃ p, p = h2.B := ⟨_, rfl⟩
  obtain ⟨qR, hqR⟩ : ∃ p, p = r2.R := ⟨_, rfl⟩
  rw [← hqB, ← hqR] at H4 ⊢
  clear CR2 d2 hh2 b2 k2 hk2 b4 hqB hqR HBAD
  go_upto_region 7 with (first | (go_at_call 6; refine (num_any _ _).mono ?_; rintro e w' ⟨rfl, hw⟩; obtain rfl : w4 = w' := hw.symm) | (go_at_call 7; refine CK.mono ?_; rintro e w5 ⟨rfl, b5⟩))
  have H5 : Hid (∃ T, Side w w5 qB qR 0 T ∧ Below w.heap.size w w5) := by
    obtain ⟨T, x2, x4⟩ := H4.out
    exact ⟨T, x2.later b5, x4.trans (b5.mono x4.size)⟩
  clear b5 CK H4
  go_wp2
  go_loopw [15] (fun s15 wr => ∃ k : Nat, s15 = .int .i64 (k : Int) ∧ Hid ((k ≤ nO ∨ k ≤ nT) ∧ ∃ T, Side w wr qB qR k T ∧ Below w.heap.size w wr)) (fun i _ => max nO nT - (intOf i).toNat)
  case atStart => exact ⟨0, rfl, .inl (Nat.zero_le _), H5.out⟩
  case round =>
    obtain ⟨k, rfl, hH⟩ := hrel
    have hkb : k ≤ 2199023255552 := by have h1 := hH.out.1; have h2 := HN.out; omega
    have hwi : IntKind.i64.wrap ((k : Int) + 1) = ((k + 1 : Nat) : Int) := by rw [IntKind.wrap_i64]; omega
    have HKB : Hid (k ≤ 4398046511104) := by exact (show k ≤ 4398046511104 by omega)
    clear hkb
    by_cases hlo : k < nO
    · have hlo' : (k : Int) < (nO : Int) := by omega
      have HME : Hid (max nO nT - ((k : Int) + 1).toNat < max nO nT - ((k : Int)).toNat) := by exact (show max nO nT - ((k : Int) + 1).toNat < max nO nT - ((k : Int)).toNat by omega)
      by_cases hlt : k < nT
      · have hlt' : (k : Int) < (nT : Int) := by omega
        have HL : Hid (k + 1 ≤ nO) := hlo
        obtain ⟨t, ht, tb, to2, htb, rfl, hTt⟩ := HT.out.at k (by rw [HN.out.2.1]; exact hlt)
        have hbw : Below w.heap.size w wr := by obtain ⟨_, _, x⟩ := hH.out.2; exact x
        have t0 := (cells_later htb hTt hbw).1; have t1 := (cells_later htb hTt hbw).2.1; have t2 := (cells_later htb hTt hbw).2.2.1; have t3 := (cells_later htb hTt hbw).2.2.2.1; have t4 := (cells_later htb hTt hbw).2.2.2.2
        have CT : Calls Try.prog 8 #[.pointer (some ⟨qB, 0, none⟩), .pointer (some ⟨qR, 0, none⟩), .agg #[.int .i64 t.kd, .int .i64 t.n, .slice t.ao t.m t.cap, .bool t.torn, .slice t.fo t.fn t.fc]] wr fun e w' => e = .returned (.bool true) ∧ ∃ T, Side w w' qB qR (k + 1) T ∧ Below w.heap.size w w' := by
          obtain ⟨T, x1, x2⟩ := hH.out.2
          exact (side_step w wr qB qR k T t x1 x2 HKB.out ht).mono (fun e w' ⟨q1, T', q2, _, _, q5⟩ => ⟨q1, T', q2, q5⟩)
        clear hTt htb ht hlo hlt hbw
        go_wp2_with (go_at_call 8; refine CT.mono ?_; rintro e w7 ⟨rfl, H7⟩)
        have FIN : Hid (∃ T, Side w w7 qB qR (k + 1) T ∧ Below w.heap.size w w7) := H7
        clear H7 t0 t1 t2 t3 t4 CT
        go_roundw
        case rel => exact ⟨k + 1, rfl, .inl HL.out, FIN.out⟩
        case measure => exact HME.out
      · have hlt' : ¬ (k : Int) < (nT : Int) := by omega
        have HL : Hid (k + 1 ≤ nO) := hlo
        have FIN : Hid (∃ T, Side w wr qB qR (k + 1) T ∧ Below w.heap.size w wr) := by
          obtain ⟨T, x1, x2⟩ := hH.out.2
          exact ⟨T, x1.next, x2⟩
        clear hlo hlt
        go_wp2
        go_roundw
        case rel => exact ⟨k + 1, rfl, .inl HL.out, FIN.out⟩
        case measure => exact HME.out
    · have hlo' : ¬ (k : Int) < (nO : Int) := by omega
      by_cases hlt : k < nT
      · have hlt' : (k : Int) < (nT : Int) := by omega
        have HME : Hid (max nO nT - ((k : Int) + 1).toNat < max nO nT - ((k : Int)).toNat) := by exact (show max nO nT - ((k : Int) + 1).toNat < max nO nT - ((k : Int)).toNat by omega)
        have HL : Hid (k + 1 ≤ nT) := hlt
        obtain ⟨t, ht, tb, to2, htb, rfl, hTt⟩ := HT.out.at k (by rw [HN.out.2.1]; exact hlt)
        have hbw : Below w.heap.size w wr := by obtain ⟨_, _, x⟩ := hH.out.2; exact x
        have t0 := (cells_later htb hTt hbw).1; have t1 := (cells_later htb hTt hbw).2.1; have t2 := (cells_later htb hTt hbw).2.2.1; have t3 := (cells_later htb hTt hbw).2.2.2.1; have t4 := (cells_later htb hTt hbw).2.2.2.2
        have CT : Calls Try.prog 8 #[.pointer (some ⟨qB, 0, none⟩), .pointer (some ⟨qR, 0, none⟩), .agg #[.int .i64 t.kd, .int .i64 t.n, .slice t.ao t.m t.cap, .bool t.torn, .slice t.fo t.fn t.fc]] wr fun e w' => e = .returned (.bool true) ∧ ∃ T, Side w w' qB qR (k + 1) T ∧ Below w.heap.size w w' := by
          obtain ⟨T, x1, x2⟩ := hH.out.2
          exact (side_step w wr qB qR k T t x1 x2 HKB.out ht).mono (fun e w' ⟨q1, T', q2, _, _, q5⟩ => ⟨q1, T', q2, q5⟩)
        clear hTt htb ht hlo hlt hbw
        go_wp2_with (go_at_call 8; refine CT.mono ?_; rintro e w7 ⟨rfl, H7⟩)
        have FIN : Hid (∃ T, Side w w7 qB qR (k + 1) T ∧ Below w.heap.size w w7) := H7
        clear H7 t0 t1 t2 t3 t4 CT
        go_roundw
        case rel => exact ⟨k + 1, rfl, .inr HL.out, FIN.out⟩
        case measure => exact HME.out
      · have hlt' : ¬ (k : Int) < (nT : Int) := by omega
        have FIN : Hid (Below w.heap.size w wr) := by obtain ⟨_, _, x⟩ := hH.out.2; exact x
        clear hlo hlt
        go_wp2
        go_ret
        exact ⟨rfl, FIN.out⟩

theorem plays_any (most pages : Int) (aO : Option Addr) (cO : Nat) (ss : List Od) (aT : Option Addr) (cT : Nat) (tt : List Od) (w : World) (hO : OpsK w aO ss) (hT : OpsK w aT tt) :
    Calls Try.prog 3 #[.int .i64 most, .int .i64 pages, .slice aO ss.length cO, .slice aT tt.length cT] w fun e w' => e = .returned (.bool true) ∧ Below w.heap.size w w' := by
  by_cases h : 1 ≤ most ∧ most ≤ 16777216 ∧ 0 ≤ pages ∧ pages ≤ 65536
  · exact plays_good most pages h.1 h.2.1 h.2.2.1 h.2.2.2 aO cO ss aT cT tt w hO hT
  · exact plays_bad most pages h aO cO ss aT cT tt w hO hT
end Go.Proofs.Ytecgjfghofpjcaa
