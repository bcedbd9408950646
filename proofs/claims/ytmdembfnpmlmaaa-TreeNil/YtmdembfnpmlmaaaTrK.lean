/-
  The contracts of cmp.Compare at strings and of node.find: binary search.
-/
import Derived.Test.YtmdembfnpmlmaaaTrJ
import Derived.Laws.Cover1
namespace Go.Proofs.Ytmdembfnpmlmaaa
open Go.RowKit Go.Lib

/-- Keys' order. -/
def kl (a b : ByteArray) : Bool := Op.bytesLess a.toList b.toList
def cmpK (a b : ByteArray) : Int := if kl a b then -1 else if a.toList == b.toList then 0 else 1
set_option maxHeartbeats 400000 in
theorem isNaN_any (s : ByteArray) (w : World) : Calls Try.prog 64 #[.string s] w fun e w' => e = .returned (.bool false) ∧ w = w' := by
  go_enter Try.func64, Try.ntmps64
  go_wp2
  go_ret
  exact ⟨rfl, rfl⟩

set_option maxHeartbeats 400000 in
theorem compare_any (a b : ByteArray) (w : World) : Calls Try.prog 56 #[.string a, .string b] w fun e w' => e = .returned (.int .i64 (cmpK a b)) ∧ w = w' := by
  unfold cmpK kl
  cases h1 : Op.bytesLess a.toList b.toList with
  | true =>
    go_enter Try.func56, Try.ntmps56
    go_wp2_with (go_at_call 64; refine (isNaN_any _ _).mono ?_; rintro e w' ⟨rfl, rfl⟩)
    go_ret
    exact ⟨rfl, rfl⟩
  | false =>
    obtain ⟨q, hq⟩ : ∃ q, (a.toList == b.toList) = q := ⟨_, rfl⟩
    cases q with
    | true =>
      go_enter Try.func56, Try.ntmps56
      go_wp2_with (go_at_call 64; refine (isNaN_any _ _).mono ?_; rintro e w' ⟨rfl, rfl⟩)
      all_goals
        go_ret
        exact ⟨rfl, rfl⟩
    | false =>
      go_enter Try.func56, Try.ntmps56
      go_wp2_with (go_at_call 64; refine (isNaN_any _ _).mono ?_; rintro e w' ⟨rfl, rfl⟩)
      all_goals
        go_ret
        exact ⟨rfl, rfl⟩

set_option maxHeartbeats 400000 in
theorem closure_any (x : Ent) (key : ByteArray) (w : World) : Calls Try.prog 55 #[.agg #[.string x.1, .int .i64 x.2], .string key] w fun e w' => e = .returned (.int .i64 (cmpK x.1 key)) ∧ Below w.heap.size w w' := by
  have A1 : Below w.heap.size w (w.alloc (.cells #[.string x.1, .int .i64 x.2] 65)) := (Below.refl _ _).alloc (Nat.le_refl _) _
  go_enter Try.func55, Try.ntmps55
  go_wp2_with (go_at_call 56; refine (compare_any _ _ _).mono ?_; rintro e w' ⟨rfl, rfl⟩)
  go_ret
  exact ⟨rfl, A1⟩

theorem bless : ∀ (x y : List UInt8), Op.bytesLess x y = decide (x < y)
  | [], [] => by simp [Op.bytesLess]
  | _ :: _, [] => by simp [Op.bytesLess]
  | [], _ :: _ => by simp [Op.bytesLess]
  | a :: x, b :: y => by
    rw [Op.bytesLess, bless x y]
    simp only [List.cons_lt_cons_iff]
    by_cases h1 : a < b <;> by_cases h2 : a = b <;> by_cases h3 : x < y <;> simp [h1, h2, h3]
theorem kl_eq (a b : ByteArray) : kl a b = decide (a.toList < b.toList) := bless _ _
theorem kl_trans {a b c : ByteArray} (h1 : kl a b = true) (h2 : kl b c = true) : kl a c = true := by
  rw [kl_eq, decide_eq_true_iff] at *
  exact List.lt_trans h1 h2
theorem kl_irrefl (a : ByteArray) : kl a a = false := by
  rw [kl_eq, decide_eq_false_iff_not]
  exact List.lt_irrefl _
/-- Entries rising by their keys. -/
def Srt (es : List Ent) : Prop := ∀ i j (hi : i < es.length) (hj : j < es.length), i < j → kl es[i].1 es[j].1 = true
/-- The place of the first entry that is not below key. -/
def Low (es : List Ent) (key : ByteArray) (i : Nat) : Prop := i ≤ es.length ∧ (∀ t (h : t < es.length), t < i → kl es[t].1 key = true) ∧ (∀ t (h : t < es.length), i ≤ t → kl es[t].1 key = false)
theorem cmpK_lt {a b : ByteArray} (h : kl a b = true) : cmpK a b = -1 := by unfold cmpK; rw [if_pos h]
theorem cmpK_ge {a b : ByteArray} (h : kl a b = false) : cmpK a b = if a.toList == b.toList then 0 else 1 := by unfold cmpK; rw [if_neg (by rw [h]; decide)]
def thereK (es : List Ent) (key : ByteArray) (i : Nat) : Bool := match es[i]? with
  | some x => x.1.toList == key.toList
  | none => false

set_option maxRecDepth 20000 in
set_option maxHeartbeats 2000000 in
theorem search_any (v : Value) (N : Nat) (es : List Ent) (key : ByteArray) (w : World) (h : OwE w N v es) (hs : Srt es) (hn : es.length ≤ 1000) :
    Calls Try.prog 54 #[v, .string key, .func (.func 55) #[] #[]] w fun e w' => ∃ i : Nat, e = .returned (.tuple #[.int .i64 (i : Int), .bool (thereK es key i)]) ∧ Low es key i ∧ Below w.heap.size w w' := by
  obtain ⟨va, cap, rfl, hcell⟩ : ∃ va cap, v = .slice va es.length cap ∧ (0 < es.length → ∃ g, va = some ⟨g, 0, none⟩ ∧ ∀ i (hi : i < es.length), w.cell? ⟨g, i * 2, none⟩ = some (.string es[i].1) ∧ w.cell? ⟨g, i * 2 + 1, none⟩ = some (.int .i64 es[i].2)) := by
    rcases own_val h with ⟨rfl, h0⟩ | ⟨g, cap, rfl, -⟩
    · exact ⟨none, 0, by rw [h0], fun hp => by omega⟩
    · exact ⟨some ⟨g, 0, none⟩, cap, rfl, fun _ => ⟨g, rfl, fun i hi => OwE.at h i hi⟩⟩
  obtain ⟨n, hnl⟩ : ∃ n, es.length = n := ⟨_, rfl⟩
  have HN : Hid (es.length = n) := hnl
  have HS : Hid (Srt es) := hs
  rw [hnl] at hn ⊢
  clear hnl h hs
  go_enter Try.func54, Try.ntmps54
  go_wp2_with fail
  go_loopw [9, 10] (fun s9 s10 wr => ∃ i j : Nat, i ≤ j ∧ j ≤ n ∧ s9 = .int .i64 i ∧ s10 = .int .i64 j ∧ Hid (∀ t (h : t < es.length), t < i → kl es[t].1 key = true) ∧ Hid (∀ t (h : t < es.length), j ≤ t → kl es[t].1 key = false) ∧ Below w.heap.size w wr) (fun s9 s10 _ => (RowKit.intOf s10).toNat - (RowKit.intOf s9).toNat)
  case atStart => exact ⟨0, n, Nat.zero_le _, Nat.le_refl _, rfl, rfl, fun t _ h => absurd h (by omega), fun t ht h => absurd ht (by rw [HN.out]; omega), Below.refl _ _⟩
  case round =>
    obtain ⟨i, j, hij, hjn, rfl, rfl, hlo, hhi, hB⟩ := hrel
    by_cases hlt : i < j
    · obtain ⟨m, hm⟩ : ∃ m, m = (i + j) / 2 := ⟨_, rfl⟩
      have him : i ≤ m := by omega
      have hmj : m < j := by omega
      have hmn : m < es.length := by rw [HN.out]; omega
      obtain ⟨g, rfl, hc⟩ := hcell (by omega)
      obtain ⟨c0, c1⟩ := hc m (by omega)
      rw [← hB.cell (p := ⟨g, m * 2, none⟩) (World.block_lt_of_cell? w _ c0)] at c0
      rw [← hB.cell (p := ⟨g, m * 2 + 1, none⟩) (World.block_lt_of_cell? w _ c1)] at c1
      obtain ⟨x, hx⟩ : ∃ x, es[m] = x := ⟨_, rfl⟩
      rw [hx] at c0 c1
      have HX : Hid (es[m] = x) := hx
      have hmi : ((i : Int) + (j : Int)) / 2 = (m : Int) := by omega
      have hij2 : (i : Int) < (j : Int) := by omega
      have hmn2 : (m : Int) < (n : Int) := by omega
      have HM : Hid (m = (i + j) / 2) := hm
      clear hc hx hcell hm
      cases hk : kl x.1 key with
      | true =>
        have C : ∀ W, Calls Try.prog 55 #[.agg #[.string x.1, .int .i64 x.2], .string key] W fun e w' => e = .returned (.int .i64 (-1)) ∧ Below W.heap.size W w' := fun W => by have := closure_any x key W; rw [cmpK_lt hk] at this; exact this
        have HK : Hid (kl x.1 key = true) := hk
        have hneg : (-1 : Int) < 0 := by decide
        clear hk
        go_wp2_with fail
        refine (C wr).mono ?_
        rintro e w2 ⟨rfl, b2⟩
        have hB2 := hB.trans (b2.mono hB.size)
        clear C
        go_wp2
        go_roundw
        case rel =>
          refine ⟨m + 1, j, by omega, hjn, by go_num, rfl, fun t ht htm => ?_, hhi, hB2⟩
          rcases Nat.lt_or_ge t m with h' | h'
          · have h1 := HS.out t m ht hmn h'
            rw [HX.out] at h1
            exact kl_trans h1 HK.out
          · obtain rfl : t = m := by omega
            rw [HX.out]
            exact HK.out
        case measure => simp [RowKit.intOf]; omega
      | false =>
        obtain ⟨c, hc⟩ : ∃ c : Int, cmpK x.1 key = c := ⟨_, rfl⟩
        have hc0 : ¬ c < 0 := by rw [← hc, cmpK_ge hk]; split <;> omega
        have C : ∀ W, Calls Try.prog 55 #[.agg #[.string x.1, .int .i64 x.2], .string key] W fun e w' => e = .returned (.int .i64 c) ∧ Below W.heap.size W w' := fun W => by have := closure_any x key W; rw [hc] at this; exact this
        have HK : Hid (kl x.1 key = false) := hk
        clear hk hc
        go_wp2_with fail
        refine (C wr).mono ?_
        rintro e w2 ⟨rfl, b2⟩
        have hB2 := hB.trans (b2.mono hB.size)
        clear C
        go_wp2
        go_roundw
        case rel =>
          refine ⟨i, m, him, by omega, rfl, rfl, hlo, fun t ht htm => ?_, hB2⟩
          rcases Nat.eq_or_lt_of_le htm with h' | h'
          · subst h'
            rw [HX.out]
            exact HK.out
          · cases hkt : kl es[t].1 key with
            | false => rfl
            | true =>
              have h1 := HS.out m t hmn ht h'
              rw [HX.out] at h1
              have := kl_trans h1 hkt
              rw [HK.out] at this
              cases this
        case measure => simp [RowKit.intOf]; omega
    · obtain rfl : i = j := by omega
      have HLOW : Hid (Low es key i) := ⟨by rw [HN.out]; exact hjn, hlo.out, hhi.out⟩
      by_cases hin : i < n
      · have hie : i < es.length := by rw [HN.out]; exact hin
        obtain ⟨g, rfl, hc⟩ := hcell (by omega)
        obtain ⟨c0, c1⟩ := hc i (by omega)
        rw [← hB.cell (p := ⟨g, i * 2, none⟩) (World.block_lt_of_cell? w _ c0)] at c0
        rw [← hB.cell (p := ⟨g, i * 2 + 1, none⟩) (World.block_lt_of_cell? w _ c1)] at c1
        have hkf := hhi.out i hie (Nat.le_refl _)
        obtain ⟨x, hx⟩ : ∃ x, es[i] = x := ⟨_, rfl⟩
        rw [hx] at c0 c1 hkf
        have HT : Hid (thereK es key i = (x.1.toList == key.toList)) := by
          show thereK es key i = _
          unfold thereK
          rw [List.getElem?_eq_getElem hie, hx]
        have hii : (i : Int) < (n : Int) := by omega
        have e1 := cmpK_ge hkf
        cases hq : (x.1.toList == key.toList) with
        | true =>
          rw [hq] at HT e1
          have C : ∀ W, Calls Try.prog 55 #[.agg #[.string x.1, .int .i64 x.2], .string key] W fun e w' => e = .returned (.int .i64 0) ∧ Below W.heap.size W w' := fun W => by have := closure_any x key W; rw [e1] at this; exact this
          clear hc hx hcell hkf e1 hq
          go_wp2_with fail
          refine (C wr).mono ?_
          rintro e w2 ⟨rfl, b2⟩
          have hB2 := hB.trans (b2.mono hB.size)
          clear C
          go_wp2
          go_ret2
          exact ⟨i, by rw [HT.out]; rfl, HLOW.out, hB2⟩
        | false =>
          rw [hq] at HT e1
          have C : ∀ W, Calls Try.prog 55 #[.agg #[.string x.1, .int .i64 x.2], .string key] W fun e w' => e = .returned (.int .i64 1) ∧ Below W.heap.size W w' := fun W => by have := closure_any x key W; rw [e1] at this; exact this
          clear hc hx hcell hkf e1 hq
          go_wp2_with fail
          refine (C wr).mono ?_
          rintro e w2 ⟨rfl, b2⟩
          have hB2 := hB.trans (b2.mono hB.size)
          clear C
          go_wp2
          go_ret2
          exact ⟨i, by rw [HT.out]; rfl, HLOW.out, hB2⟩
      · obtain rfl : i = n := by omega
        have HT : Hid (thereK es key i = false) := by
          show thereK es key i = _
          unfold thereK
          rw [List.getElem?_eq_none (by rw [HN.out]; exact Nat.le_refl _)]
        clear hcell
        go_wp2
        go_ret2
        exact ⟨i, by rw [HT.out]; rfl, HLOW.out, hB⟩
end Go.Proofs.Ytmdembfnpmlmaaa
