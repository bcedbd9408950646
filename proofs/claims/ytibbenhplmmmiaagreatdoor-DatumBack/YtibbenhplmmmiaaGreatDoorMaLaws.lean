/-
  Plain facts on numbers and bytes that the walks of package codec lean on: how a number is folded, cut into groups of seven bits, and read back. Nothing of the program is in it.
  Laws on slices of bytes that the walks lean on: what a slice reads as, what becomes of it behind new memory, and append from a slice or a string onto a row that the call itself made. Nothing of the program's code is in it.
-/
import Derived.WalkKit
import Derived.Laws.BitsAllLaws
import Derived.WalkSmall
import Derived.WalkSpells
import Derived.Deep.AppendSrc
import Derived.Laws.IdiomStrings
namespace Go.Proofs.YtibbenhplmmmiaaGreatDoor
open Go.RowKit

/-- Bytes as cells. -/
def bv (bs : List UInt8) : List Value := bs.map fun b => Value.int .u8 (b.toNat : Int)
theorem bv_length (bs : List UInt8) : (bv bs).length = bs.length := by simp [bv]
theorem bv_append (a b : List UInt8) : bv (a ++ b) = bv a ++ bv b := by simp [bv]
theorem bv_cell (bs : List UInt8) : ∀ u ∈ bv bs, u.oneCell' = true := by
  intro u hu
  obtain ⟨_, _, rfl⟩ := List.mem_map.1 hu
  rfl
theorem bv_at (bs : List UInt8) (j : Nat) (h : j < bs.length) : (bv bs)[j]? = some (Value.int .u8 (bs[j].toNat : Int)) := by simp [bv, h]

/-- The slice v owns a row of its own that begins with the bytes bs. -/
def Own (w : World) (base : Nat) (v : Value) (bs : List UInt8) : Prop := w.ownsRow base 5 1 v bs.length (bv bs)

theorem ret_intP {k : IntKind} {a b : Int} (h : a = b) : Ending.returned (.int k a) = .returned (.int k b) := by rw [h]

/-! ### folds -/
def foldN (n : Int) : Nat := if n < 0 then (-2 * n - 1).toNat else (2 * n).toNat
def unfoldN (u : Nat) : Int := if u % 2 = 0 then ((u / 2 : Nat) : Int) else -((u / 2 : Nat) : Int) - 1

theorem foldN_lt (n : Int) (h0 : -9223372036854775808 ≤ n) (h1 : n ≤ 9223372036854775807) : foldN n < 18446744073709551616 := by
  unfold foldN; split <;> omega
theorem unfold_fold (n : Int) : unfoldN (foldN n) = n := by
  unfold unfoldN foldN; split <;> split <;> omega
theorem xor_max_nat (x : Nat) (h : x < 18446744073709551616) : 18446744073709551615 ^^^ x = 18446744073709551615 - x := by
  have e := BitVec.toNat_not (x := BitVec.ofNat 64 x)
  rw [← BitVec.allOnes_xor, BitVec.toNat_xor, BitVec.toNat_allOnes, BitVec.toNat_ofNat, Nat.mod_eq_of_lt (by simpa using h)] at e
  simpa using e
theorem xor_max (x : Nat) (h : x < 18446744073709551616) : bits .xor .u64 IntKind.u64.max (x : Int) = ((18446744073709551615 - x : Nat) : Int) := by
  have e : IntKind.u64.max = ((18446744073709551615 : Nat) : Int) := by decide
  rw [e, u64_xor_nat _ _ (by decide) h, xor_max_nat x h]

theorem fold_pos (n : Int) (h : 0 ≤ n) (h1 : n ≤ 9223372036854775807) : IntKind.u64.wrap (IntKind.u64.wrap n * 2) = (foldN n : Int) := by
  rw [IntKind.wrap_u64, IntKind.wrap_u64]; unfold foldN; split <;> omega
theorem fold_neg (n : Int) (h0 : -9223372036854775808 ≤ n) (h : n < 0) : bits .xor .u64 IntKind.u64.max (IntKind.u64.wrap (IntKind.u64.wrap n * 2)) = (foldN n : Int) := by
  have e : IntKind.u64.wrap (IntKind.u64.wrap n * 2) = (((2 * n) % 18446744073709551616).toNat : Int) := by rw [IntKind.wrap_u64, IntKind.wrap_u64]; omega
  rw [e, xor_max _ (by omega)]; unfold foldN; split <;> omega

theorem unfold_odd (u : Nat) (h : u < 18446744073709551616) (hp : u % 2 = 1) : wrap64 (bits .xor .u64 IntKind.u64.max ((u : Int) / 2)) = unfoldN u := by
  have e : (u : Int) / 2 = ((u / 2 : Nat) : Int) := by omega
  rw [e, xor_max _ (by omega)]; unfold unfoldN wrap64; split <;> omega
theorem unfold_even (u : Nat) (hp : ¬ u % 2 = 1) : ((u : Int) / 2) = unfoldN u := by
  unfold unfoldN; split <;> omega

/-! ### a number's bytes -/
def nb : Nat → Nat → List UInt8
  | 0, u => [UInt8.ofNat u]
  | f + 1, u => if u < 128 then [UInt8.ofNat u] else UInt8.ofNat (u % 128 + 128) :: nb f (u / 128)
def numBytes (n : Int) : List UInt8 := nb 9 (foldN n)

theorem nb_small (f u : Nat) (h : u < 128) : nb f u = [UInt8.ofNat u] := by
  cases f <;> simp [nb, h]
theorem nb_big (f u : Nat) (h : ¬ u < 128) : nb (f + 1) u = UInt8.ofNat (u % 128 + 128) :: nb f (u / 128) := by simp [nb, h]
theorem nb_len (f : Nat) : ∀ u, 1 ≤ (nb f u).length ∧ (nb f u).length ≤ f + 1 := by
  induction f with
  | zero => intro u; simp [nb]
  | succ f ih =>
    intro u
    unfold nb
    split
    · simp
    · have := ih (u / 128); simp; omega
theorem numBytes_len (n : Int) : 1 ≤ (numBytes n).length ∧ (numBytes n).length ≤ 10 := nb_len 9 _

theorem or128 (u : Nat) : bits .or .u8 (IntKind.u8.wrap (u : Int)) 128 = ((UInt8.ofNat (u % 128 + 128)).toNat : Int) := by
  have e : IntKind.u8.wrap (u : Int) = ((u % 256 : Nat) : Int) := by rw [IntKind.wrap_u8]; omega
  rw [e, show (128 : Int) = ((128 : Nat) : Int) from rfl, u8_or_nat _ _ (by omega) (by omega)]
  congr 1
  have hb : u % 256 < 256 := Nat.mod_lt _ (by decide)
  have h2 : u % 128 = u % 256 % 128 := by omega
  rw [UInt8.toNat_ofNat', h2]
  generalize u % 256 = x at hb
  have key : ∀ x : Fin 256, (x.val ||| 128) = (x.val % 128 + 128) % 2 ^ 8 := by decide +kernel
  exact key ⟨x, hb⟩
theorem byte_small' (u : Nat) (_h : u < 128) : (u : Int) = ((UInt8.ofNat u).toNat : Int) := by
  rw [UInt8.toNat_ofNat']; omega

/-! ### a number read out of bytes: its fold, how many bytes, which error -/
def takeGo : Nat → Nat → Nat → List UInt8 → Nat × Nat × Nat
  | 0, _, _, [] => (0, 0, 20)
  | 0, _, _, _ :: _ => (0, 0, 21)
  | _ + 1, _, _, [] => (0, 0, 20)
  | f + 1, i, u, g :: r =>
    if i = 9 ∧ 1 < g.toNat then (0, 0, 21)
    else if g.toNat < 128 then (if 0 < i ∧ g.toNat = 0 then (0, 0, 21) else (u + g.toNat % 128 * 128 ^ i, i + 1, 0))
    else takeGo f (i + 1) (u + g.toNat % 128 * 128 ^ i) r
def takeN (bs : List UInt8) : Nat × Nat × Nat := takeGo 10 0 0 bs

theorem takeGo_nb : ∀ (f i u a : Nat) (r : List UInt8), i + f = 9 → u < 128 ^ (f + 1) → (i = 9 → u ≤ 1) → (0 < i → 0 < u) →
    (f = 0 ∨ u / 128 ^ f ≤ 1) →
    takeGo (f + 1) i a (nb f u ++ r) = (a + u * 128 ^ i, i + (nb f u).length, 0) := by
  intro f
  induction f with
  | zero =>
    intro i u a r hi hu h9 h0 _
    have hu' : u < 128 := by simpa using hu
    have e : (UInt8.ofNat u).toNat = u := by rw [UInt8.toNat_ofNat']; omega
    have e1 : u % 128 = u := Nat.mod_eq_of_lt hu'
    have hi9 : i = 9 := by omega
    have := h9 hi9
    have := h0 (by omega)
    simp only [nb, List.cons_append, List.nil_append, takeGo, e]
    rw [if_neg (by omega), if_pos hu', if_neg (by omega), e1]; rfl
  | succ f ih =>
    intro i u a r hi hu h9 h0 hq
    by_cases hs : u < 128
    · have e : (UInt8.ofNat u).toNat = u := by rw [UInt8.toNat_ofNat']; omega
      have e1 : u % 128 = u := Nat.mod_eq_of_lt hs
      rw [nb_small _ _ hs]
      simp only [List.cons_append, List.nil_append, takeGo, e]
      rw [if_neg (by omega), if_pos hs]
      by_cases hz : 0 < i
      · have := h0 hz
        rw [if_neg (by omega), e1]; rfl
      · rw [if_neg (by omega), e1]; rfl
    · rw [nb_big _ _ hs]
      have e : (UInt8.ofNat (u % 128 + 128)).toNat = u % 128 + 128 := by rw [UInt8.toNat_ofNat']; omega
      have hdiv : u / 128 / 128 ^ f = u / 128 ^ (f + 1) := by rw [Nat.div_div_eq_div_mul, Nat.pow_succ, Nat.mul_comm]
      have hlt : u / 128 < 128 ^ (f + 1) := by
        rw [Nat.div_lt_iff_lt_mul (by decide)]
        simpa [Nat.pow_succ] using hu
      have hqq : u / 128 ^ (f + 1) ≤ 1 := by rcases hq with hq | hq; · omega
                                             · exact hq
      simp only [List.cons_append, takeGo, e]
      rw [if_neg (by omega), if_neg (by omega)]
      rw [ih (i + 1) (u / 128) _ r (by omega) hlt (by
        intro h; have hf : f = 0 := by omega
        subst hf; simpa using hqq) (by omega) (by
        rcases Nat.eq_zero_or_pos f with h | h
        · exact .inl h
        · right; rw [hdiv]; exact hqq)]
      have e3 : (u % 128 + 128) % 128 = u % 128 := by omega
      have e4 : u = u / 128 * 128 + u % 128 := by omega
      rw [e3, Nat.pow_succ]
      refine Prod.ext ?_ (Prod.ext ?_ rfl)
      · show a + u % 128 * 128 ^ i + u / 128 * (128 ^ i * 128) = a + u * 128 ^ i
        conv => rhs; rw [e4]
        rw [Nat.add_mul, Nat.mul_assoc (u / 128), Nat.mul_comm 128]; omega
      · show i + 1 + (nb f (u / 128)).length = i + (UInt8.ofNat (u % 128 + 128) :: nb f (u / 128)).length
        simp; omega

theorem takeN_nb (u : Nat) (h : u < 18446744073709551616) (r : List UInt8) : takeN (nb 9 u ++ r) = (u, (nb 9 u).length, 0) := by
  unfold takeN
  rw [takeGo_nb 9 0 u 0 r rfl (Nat.lt_trans h (by decide)) (by omega) (by omega) (.inr (by omega))]
  simp
end Go.Proofs.YtibbenhplmmmiaaGreatDoor

namespace Go.Proofs.YtibbenhplmmmiaaGreatDoor
open Go.RowKit

section
variable {P : Program} {w : World}

/-- append onto a row of the call's own, from whatever source: there is room. -/
theorem run_append_room_from (t tx ty e : TypeId) (i : TypeInfo) (ht : P.underlying t = some (.slice e)) (hi : P.info? e = some i)
    (g sLen sCap : Nat) (cur : Array Value) (hg : w.heap[g]? = some (.cells cur e (0, 0))) (x : Value) (m : Nat) (news : List Value) (hs : Src P i.size tx x m news w)
    (hroom : sLen + m ≤ sCap) (hfit : sLen * i.size + news.length ≤ cur.size) :
    (Builtin.append_ #[t, tx] ty #[.slice (some ⟨g, 0, none⟩) sLen sCap, x]).run P w =
      .ok (.slice (some ⟨g, 0, none⟩) (sLen + m) sCap) (w.setRow g (cur.toList.take (sLen * i.size) ++ news ++ cur.toList.drop (sLen * i.size + news.length)).toArray) := by
  have hst := run_storeCells_at P g (sLen * i.size) e news 0 cur w hg (by simpa using hfit) hs.one
  simp only [Nat.add_zero] at hst
  rcases hs.kind with ⟨e', hk⟩ | hk <;> simp [Builtin.append_, run_underlying ht, run_underlying hk, sizeOf, typeInfo, hi, hs.len, hroom, hs.cells, Addr.add_lit, hst]

theorem run_append_from (base : Nat) (t tx ty e : TypeId) (i : TypeInfo) (z : Value) (size bytes : Nat) (ht : P.underlying t = some (.slice e)) (hi : P.info? e = some i) (hz : i.zero = some z)
    (hsize : i.size = size) (hby : i.bytes = bytes) (hzs : z.cells.size = size)
    (v : Value) (n : Nat) (xs : List Value) (hown : w.ownsRow base e size v n xs) (x : Value) (m : Nat) (news : List Value) (hs : Src P size tx x m news w)
    (h63 : n + m ≤ maxLen) (hbytes : (n + m) * bytes ≤ 140737488355328) (hbase : base ≤ w.heap.size) :
    ∃ v' w', (Builtin.append_ #[t, tx] ty #[v, x]).run P w = .ok v' w' ∧ w'.ownsRow base e size v' (n + m) (xs ++ news) ∧ w.grownBy w' v.ownBlock := by
  subst hsize
  subst hby
  have hl := hs.newsLen
  have hsmall : n + m ≤ 9223372036854775807 := by simp only [maxLen] at h63; omega
  have hlen : (xs ++ news).length = (n + m) * i.size := by rw [List.length_append, hown.1, hl, Nat.add_mul]
  have grown : ∀ (old : Nat), old < n + m → ∀ (row : Option Nat),
      (w.drew.alloc (.cells ((xs ++ news).toArray ++ Builtin.zeroCells z.cells (grownCap w (n + m) old e - (n + m))) e)).ownsRow base e i.size
        (.slice (some ⟨w.heap.size, 0, none⟩) (n + m) (grownCap w (n + m) old e)) (n + m) (xs ++ news) ∧
      w.grownBy (w.drew.alloc (.cells ((xs ++ news).toArray ++ Builtin.zeroCells z.cells (grownCap w (n + m) old e - (n + m))) e)) row := by
    intro old ho row
    have hge := grownCap_ge w (n + m) old e
    have hcm : grownCap w (n + m) old e ≤ maxLen := grownCap_le_maxLen w (n + m) old e h63
    refine ⟨⟨hlen, .inr ⟨w.heap.size, _, _, rfl, hbase, heap_alloc_new w.drew _, hge, hcm, ?_, ?_⟩⟩, ⟨rfl, rfl, rfl, by simp, fun k hk _ => Below.heap_alloc w.drew _ k hk⟩⟩
    · simp only [Array.size_append, List.size_toArray, size_zeroCells, hzs, hlen, ← Nat.add_mul]
      congr 1
      omega
    · simp only [Array.toList_append]
      rw [← hlen]
      exact List.take_left
  rcases hown.2 with ⟨rfl, rfl⟩ | ⟨g, cap, cur, rfl, hbg, hg, hnc, hcm, hcs, htake⟩
  · have hx : xs = [] := List.eq_nil_of_length_eq_zero (by simpa using hown.1)
    subst hx
    by_cases hm : m = 0
    · subst hm
      have hn : news = [] := List.eq_nil_of_length_eq_zero (by simpa using hl)
      subst hn
      have hcl := hs.cells
      refine ⟨.slice none 0 0, w, ?_, World.ownsRow_nil w base e i.size, ⟨rfl, rfl, rfl, Nat.le_refl _, fun _ _ _ => rfl⟩⟩
      rcases hs.kind with ⟨e', hk⟩ | hk <;> simp [Builtin.append_, run_underlying ht, run_underlying hk, sizeOf, typeInfo, hi, hs.len, hcl]
    · have hr := run_append_grow_src (P := P) w t tx ty e i z ht hi hz none 0 0 [] (run_firstCells_none w.drew i.size 0 0 0) x m news hs (by omega) (by omega) (growslice_fits (by omega) hbytes)
      have hgr := grown 0 (by omega) (Value.ownBlock (.slice none 0 0))
      exact ⟨_, _, hr, hgr.1, hgr.2⟩
  · by_cases hroom : n + m ≤ cap
    · have hfit : n * i.size + news.length ≤ cur.size := by rw [hl, hcs, ← Nat.add_mul]; exact Nat.mul_le_mul_right _ hroom
      have hr := run_append_room_from (P := P) t tx ty e i ht hi g n cap cur hg x m news hs hroom hfit
      refine ⟨_, _, hr, ⟨hlen, .inr ⟨g, cap, _, rfl, hbg, setRow_heap w g cur _ e _ hg, hroom, hcm, ?_, ?_⟩⟩, ⟨rfl, rfl, rfl, by simp, fun k _ hk => setRow_other w g k _ (fun e => hk (by simp [Value.ownBlock, e]))⟩⟩
      · simp only [List.size_toArray, List.length_append, List.length_take, List.length_drop, Array.length_toList]
        omega
      · rw [htake, ← hlen]
        exact List.take_left
    · have holds : ∀ j u, xs[j]? = some u → w.drew.cell? ((⟨g, 0, none⟩ : Addr).add j) = some u := hown.cells (g := g) rfl
      have hr := run_append_grow_src (P := P) w t tx ty e i z ht hi hz (some ⟨g, 0, none⟩) n cap xs (run_firstCells_some w.drew i.size n ⟨g, 0, none⟩ n cap xs hown.1 holds) x m news hs (by omega) (by omega) (growslice_fits (by omega) hbytes)
      have hgr := grown cap (by omega) (Value.ownBlock (.slice (some ⟨g, 0, none⟩) n cap))
      exact ⟨_, _, hr, hgr.1, hgr.2⟩

theorem wpList_append_from {ops : Array Oper} {rest : List Oper} {o : Oper} {a : Act} {Q : Exit → Act → World → Prop} (hgd : o.guard = none) (s x : Operand) (t tx : TypeId)
    (ho : o.op = .call { callee := .builtin .append, args := #[s, x], argTypes := #[t, tx] })
    (base : Nat) (e : TypeId) (i : TypeInfo) (z : Value) (size bytes : Nat) (ht : P.underlying t = some (.slice e)) (hi : P.info? e = some i) (hz : i.zero = some z)
    (hsize : i.size = size) (hby : i.bytes = bytes) (hzs : z.cells.size = size)
    (v : Value) (n : Nat) (xs : List Value) (hv : a.eval s = v) (hown : w.ownsRow base e size v n xs)
    (xv : Value) (m : Nat) (news : List Value) (hx : a.eval x = xv) (hs : Src P size tx xv m news w)
    (h63 : n + m ≤ maxLen) (hbytes : (n + m) * bytes ≤ 140737488355328) (hbase : base ≤ w.heap.size)
    (h : ∀ v' w', w'.ownsRow base e size v' (n + m) (xs ++ news) → w.grownBy w' v.ownBlock → wpList P ops Q rest (a.put o.dst v') w') : wpList P ops Q (o :: rest) a w := by
  refine wpList_plain hgd fun K hK' => ?_
  obtain ⟨v', w', hr, h2, h3⟩ := run_append_from (P := P) base t tx o.type e i z size bytes ht hi hz hsize hby hzs v n xs hown xv m news hs h63 hbytes hbase
  unfold Oper.wp execOp
  simp only [ho, resolve, invoke, builtin, Sem.run_bind, Sem.run_pure, Result.andThen_ok, List.map_toArray, List.map_cons, List.map_nil, hv, hx, hr]
  exact hK' _ _ (h v' w' h2 h3)
end

/-- The slice '.slice ao n cap' reads as the bytes bs in the world w. -/
def Rd (w : World) (ao : Option Addr) (n cap : Nat) (bs : List UInt8) : Prop :=
  bs.length = n ∧ n ≤ cap ∧ cap ≤ maxLen ∧ (ao = none → n = 0 ∧ cap = 0) ∧
  (0 < n → ∃ b off, ao = some ⟨b, off, none⟩ ∧ ∀ i (h : i < bs.length), w.cell? ⟨b, off + i, none⟩ = some (.int .u8 (bs[i].toNat : Int)))

theorem Rd.nil (w : World) : Rd w none 0 0 [] := ⟨rfl, Nat.le_refl _, Nat.zero_le _, fun _ => ⟨rfl, rfl⟩, fun h => by omega⟩

theorem Rd.later {w w' : World} {ao : Option Addr} {n cap : Nat} {bs : List UInt8} (h : Rd w ao n cap bs) (hb : Below w.heap.size w w') : Rd w' ao n cap bs := by
  obtain ⟨h1, h2, h3, h4, h5⟩ := h
  refine ⟨h1, h2, h3, h4, fun hn => ?_⟩
  obtain ⟨b, off, hao, hc⟩ := h5 hn
  refine ⟨b, off, hao, fun i hi => ?_⟩
  have := hc i hi
  rw [hb.cell (p := ⟨b, off + i, none⟩) (World.block_lt_of_cell? w _ this)]
  exact this

/-- In a world in which the slice's own block is as it was. -/
theorem Rd.kept {w w' : World} {ao : Option Addr} {n cap : Nat} {bs : List UInt8} (h : Rd w ao n cap bs) (hb : ∀ b off, ao = some ⟨b, off, none⟩ → b < w.heap.size → w'.heap[b]? = w.heap[b]?) : Rd w' ao n cap bs := by
  obtain ⟨h1, h2, h3, h4, h5⟩ := h
  refine ⟨h1, h2, h3, h4, fun hn => ?_⟩
  obtain ⟨b, off, hao, hc⟩ := h5 hn
  refine ⟨b, off, hao, fun i hi => ?_⟩
  have := hc i hi
  rw [World.cell?_of_block (w := w) (a := ⟨b, off + i, none⟩) (hb b off hao (World.block_lt_of_cell? w _ this))]
  exact this

/-- What a row of the call's own reads as. -/
theorem Own.rd {w : World} {base : Nat} {v : Value} {bs : List UInt8} (h : Own w base v bs) :
    ∃ ao cap, v = .slice ao bs.length cap ∧ Rd w ao bs.length cap bs ∧ (ao = none ∨ ∃ g, ao = some ⟨g, 0, none⟩ ∧ base ≤ g ∧ g < w.heap.size ∧ v.ownBlock = some g) := by
  have hlt := World.ownsRow.lt h
  obtain ⟨h1, h2⟩ := h
  rcases h2 with ⟨rfl, hn⟩ | ⟨g, cap, cur, rfl, hb, hg, hnc, hcm, hcs, htake⟩
  · have : bs = [] := List.eq_nil_of_length_eq_zero hn
    subst this
    exact ⟨none, 0, rfl, Rd.nil w, .inl rfl⟩
  · refine ⟨some ⟨g, 0, none⟩, cap, rfl, ⟨rfl, hnc, hcm, (fun h => by cases h), fun _ => ⟨g, 0, rfl, fun i hi => ?_⟩⟩, .inr ⟨g, rfl, hb, (hlt g rfl).2, rfl⟩⟩
    rw [cell_of_row w g (0 + i) cur 5 (0, 0) hg]
    have e := bv_at bs i hi
    rw [← htake, List.getElem?_take] at e
    split at e
    · simpa using e
    · cases e

theorem Own.later {w w' : World} {base : Nat} {v : Value} {bs : List UInt8} (h : Own w base v bs) (hb : Below w.heap.size w w') : Own w' base v bs := by
  obtain ⟨h1, h2⟩ := h
  refine ⟨h1, ?_⟩
  rcases h2 with hn | ⟨g, cap, cur, hv, hbg, hg, rest⟩
  · exact .inl hn
  · refine .inr ⟨g, cap, cur, hv, hbg, ?_, rest⟩
    rw [hb.block g (Array.getElem?_eq_some_iff.1 hg).1]
    exact hg

theorem Own.more {w : World} {base base' : Nat} {v : Value} {bs : List UInt8} (h : Own w base v bs) (hb : base' ≤ base) : Own w base' v bs := by
  obtain ⟨h1, h2⟩ := h
  refine ⟨h1, ?_⟩
  rcases h2 with hn | ⟨g, cap, cur, hv, hbg, rest⟩
  · exact .inl hn
  · exact .inr ⟨g, cap, cur, hv, by omega, rest⟩

/-- 'string(b)'. -/
theorem run_string_of {P : Program} {w : World} {ao : Option Addr} {n cap : Nat} {bs : List UInt8} (src dst e : TypeId) (hs : P.underlying src = some (.slice e)) (he : P.underlying e = some (.int .u8)) (hd : P.underlying dst = some .string)
    (h : Rd w ao n cap bs) : (convert src dst (.slice ao n cap)).run P w = .ok (.string ⟨bs.toArray⟩) w := by
  obtain ⟨rfl, h2, h3, h4, h5⟩ := h
  cases ao with
  | none =>
    obtain ⟨hn, _⟩ := h4 rfl
    have : bs = [] := List.eq_nil_of_length_eq_zero hn
    subst this
    rw [run_convert_bytes_nil (P := P) w src e hs he _ _ dst hd]
    rfl
  | some a =>
    refine run_convert_bytes_back w src dst e a cap bs hs he hd fun j hj => ?_
    obtain ⟨b, off, hao, hc⟩ := h5 (by omega)
    obtain rfl := Option.some.inj hao
    rw [Addr.add_lit]
    exact hc j hj

/-- What append takes out of a slice of bytes. -/
theorem src_of_rd {P : Program} {w : World} {ao : Option Addr} {n cap : Nat} {bs : List UInt8} {t e : TypeId} (ht : P.underlying t = some (.slice e)) (h : Rd w ao n cap bs) : Src P 1 t (.slice ao n cap) n (bv bs) w := by
  obtain ⟨rfl, h2, h3, h4, h5⟩ := h
  cases ao with
  | none =>
    obtain ⟨hn, hc⟩ := h4 rfl
    have : bs = [] := List.eq_nil_of_length_eq_zero hn
    subst this
    exact Src.ofNil w ht cap
  | some a =>
    refine Src.ofSlice w ht a bs.length cap (bv bs) (by simp [bv]) (fun j u hu => ?_) (bv_cell bs)
    have hj : j < bs.length := by
      have := (List.getElem?_eq_some_iff.1 hu).1
      simpa [bv] using this
    obtain ⟨b, off, hao, hc⟩ := h5 (by omega)
    obtain rfl := Option.some.inj hao
    rw [Addr.add_lit, hc j hj]
    rw [bv_at bs j hj] at hu
    exact hu

theorem byteCells_bv (s : ByteArray) : byteCells s = bv s.data.toList := rfl
end Go.Proofs.YtibbenhplmmmiaaGreatDoor
