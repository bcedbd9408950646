/-
  Nodes as they lie in memory: trees as plain data, and the contracts of isLeaf, find and child.
-/
import Derived.Test.YtmdembfnpmlmaaaTrK
namespace Go.Proofs.Ytmdembfnpmlmaaa
open Go.RowKit Go.Lib

/-- A tree of height h + 1 as plain data: all leaves are as deep. -/
def Tr : Nat → Type
  | 0 => List Ent
  | h + 1 => List Ent × List (Tr h)
def Tr.es : {h : Nat} → Tr h → List Ent
  | 0, t => t
  | _ + 1, t => t.1
/-- A node's two cells in a block of its own. -/
def NodeW (w : World) (b : Nat) (ev kv : Value) : Prop := w.heap[b]? = some (.cells #[ev, kv] 75 (0, 0))
theorem NodeW.c0 {w : World} {b : Nat} {ev kv : Value} (h : NodeW w b ev kv) : w.cell? ⟨b, 0, none⟩ = some ev := by simp [World.cell?, show w.heap[b]? = _ from h]
theorem NodeW.c1 {w : World} {b : Nat} {ev kv : Value} (h : NodeW w b ev kv) : w.cell? ⟨b, 1, none⟩ = some kv := by simp [World.cell?, show w.heap[b]? = _ from h]
theorem NodeW.fz {w : World} {b : Nat} {ev kv : Value} (h : NodeW w b ev kv) (i : Nat) : w.frozen? ⟨b, i, none⟩ = false := by simp [World.frozen?, show w.heap[b]? = _ from h]
theorem NodeW.lt {w : World} {b : Nat} {ev kv : Value} (h : NodeW w b ev kv) : b < w.heap.size := (Array.getElem?_eq_some_iff.1 h).1
theorem NodeW.kept {w w' : World} {b : Nat} {ev kv : Value} (h : NodeW w b ev kv) (hb : w'.heap[b]? = w.heap[b]?) : NodeW w' b ev kv := by unfold NodeW; rw [hb]; exact h
theorem NodeW.set0 {w : World} {b : Nat} {ev kv : Value} (h : NodeW w b ev kv) (v : Value) : NodeW (w.setCell ⟨b, 0, none⟩ v) b v kv := heap_set w b 0 _ _ v h
theorem NodeW.set1 {w : World} {b : Nat} {ev kv : Value} (h : NodeW w b ev kv) (v : Value) : NodeW (w.setCell ⟨b, 1, none⟩ v) b ev v := heap_set w b 1 _ _ v h
/-- A row of one's own in a world in which its block is as it was. -/
theorem own_kept {w w' : World} {base e size n : Nat} {v : Value} {xs : List Value} (h : w.ownsRow base e size v n xs) (hb : ∀ g, v.ownBlock = some g → w'.heap[g]? = w.heap[g]?) : w'.ownsRow base e size v n xs := by
  refine ⟨h.1, ?_⟩
  rcases h.2 with hn | ⟨g, cap, cur, hv, hbb, hg, rest⟩
  · exact .inl hn
  · refine .inr ⟨g, cap, cur, hv, hbb, ?_, rest⟩
    rw [hb g (by rw [hv]; rfl)]
    exact hg

/-- A tree lies at block b; F: all its blocks. -/
def Lies (w : World) (N : Nat) : (h : Nat) → Nat → Tr h → List Nat → Prop
  | 0, b, t, F => ∃ ev, NodeW w b ev (.slice none 0 0) ∧ OwE w N ev t ∧ N ≤ b ∧ F = b :: ev.ownBlock.toList
  | h + 1, b, t, F => ∃ (ev kv : Value) (bs : List Nat) (Fs : List (List Nat)), NodeW w b ev kv ∧ OwE w N ev t.1 ∧ OwN w N kv bs ∧ N ≤ b ∧ t.2.length = t.1.length + 1 ∧ bs.length = t.2.length ∧ Fs.length = t.2.length ∧
      (∀ i (hb : i < bs.length) (hk : i < t.2.length) (hF : i < Fs.length), Lies w N h bs[i] t.2[i] Fs[i]) ∧ F = b :: (ev.ownBlock.toList ++ (kv.ownBlock.toList ++ Fs.flatten))
theorem Lies.kept {w w' : World} {N : Nat} : ∀ {h : Nat} {b : Nat} {t : Tr h} {F : List Nat}, Lies w N h b t F → (∀ x ∈ F, w'.heap[x]? = w.heap[x]?) → Lies w' N h b t F
  | 0, b, t, F, hl, hF => by
    obtain ⟨ev, hn, ho, hb, rfl⟩ := hl
    exact ⟨ev, hn.kept (hF b (by simp)), own_kept ho (fun g hg => hF g (by rw [hg]; simp)), hb, rfl⟩
  | h + 1, b, t, F, hl, hF => by
    obtain ⟨ev, kv, bs, Fs, hn, ho, hk, hb, h1, h2, h3, hL, rfl⟩ := hl
    refine ⟨ev, kv, bs, Fs, hn.kept (hF b (by simp)), own_kept ho (fun g hg => hF g (by rw [hg]; simp)), own_kept hk (fun g hg => hF g (by rw [hg]; simp)), hb, h1, h2, h3, fun i hb hk hFi => (hL i hb hk hFi).kept (fun x hx => hF x ?_), rfl⟩
    simp only [List.mem_cons, List.mem_append, List.mem_flatten]
    exact .inr (.inr (.inr ⟨_, List.getElem_mem hFi, hx⟩))
/-- What every node has: its entries. -/
theorem Lies.node {w : World} {N : Nat} : ∀ {h : Nat} {b : Nat} {t : Tr h} {F : List Nat}, Lies w N h b t F → ∃ ev kv, NodeW w b ev kv ∧ OwE w N ev t.es ∧ N ≤ b ∧ b ∈ F
  | 0, b, t, F, hl => by
    obtain ⟨ev, hn, ho, hb, rfl⟩ := hl
    exact ⟨ev, _, hn, ho, hb, by simp⟩
  | h + 1, b, t, F, hl => by
    obtain ⟨ev, kv, bs, Fs, hn, ho, hk, hb, h1, h2, h3, hL, rfl⟩ := hl
    exact ⟨ev, kv, hn, ho, hb, by simp⟩
theorem Lies.lt {w : World} {N : Nat} : ∀ {h : Nat} {b : Nat} {t : Tr h} {F : List Nat}, Lies w N h b t F → ∀ x ∈ F, N ≤ x ∧ x < w.heap.size
  | 0, b, t, F, hl => by
    obtain ⟨ev, hn, ho, hb, rfl⟩ := hl
    intro x hx
    simp only [List.mem_cons] at hx
    rcases hx with rfl | hx
    · exact ⟨hb, hn.lt⟩
    · exact World.ownsRow.lt ho x (by cases h : ev.ownBlock with | none => rw [h] at hx; cases hx | some g => rw [h] at hx; simp at hx; rw [hx])
  | h + 1, b, t, F, hl => by
    obtain ⟨ev, kv, bs, Fs, hn, ho, hk, hb, h1, h2, h3, hL, rfl⟩ := hl
    intro x hx
    simp only [List.mem_cons, List.mem_append, List.mem_flatten] at hx
    rcases hx with rfl | hx | hx | ⟨l, hl, hx⟩
    · exact ⟨hb, hn.lt⟩
    · exact World.ownsRow.lt ho x (by cases h : ev.ownBlock with | none => rw [h] at hx; cases hx | some g => rw [h] at hx; simp at hx; rw [hx])
    · exact World.ownsRow.lt hk x (by cases h : kv.ownBlock with | none => rw [h] at hx; cases hx | some g => rw [h] at hx; simp at hx; rw [hx])
    · obtain ⟨i, hi, rfl⟩ := List.getElem_of_mem hl
      exact (hL i (by omega) (by omega) hi).lt x hx

set_option maxHeartbeats 400000 in
theorem isLeaf_any (b : Nat) (ev : Value) (ka : Option Addr) (k kc : Nat) (w : World) (h : NodeW w b ev (.slice ka k kc)) :
    Calls Try.prog 47 #[.pointer (some ⟨b, 0, none⟩)] w fun e w' => e = .returned (.bool (decide (k = 0))) ∧ w = w' := by
  have c1 := h.c1
  clear h
  by_cases hk : k = 0
  · subst hk
    go_enter Try.func47, Try.ntmps47
    go_wp2
    go_ret
    exact ⟨rfl, rfl⟩
  · have hk' : ((k : Int) == 0) = false := by simp; omega
    go_enter Try.func47, Try.ntmps47
    go_wp2
    go_ret
    exact ⟨by simp [hk], rfl⟩

set_option maxHeartbeats 400000 in
theorem find_any (b N : Nat) (ev kv : Value) (es : List Ent) (key : ByteArray) (w : World) (h : NodeW w b ev kv) (ho : OwE w N ev es) (hs : Srt es) (hn : es.length ≤ 1000) :
    Calls Try.prog 45 #[.pointer (some ⟨b, 0, none⟩), .string key] w fun e w' => ∃ i : Nat, e = .returned (.tuple #[.int .i64 (i : Int), .bool (thereK es key i)]) ∧ Low es key i ∧ Below w.heap.size w w' := by
  have c0 := h.c0
  have C := search_any ev N es key w ho hs hn
  clear h ho
  go_enter Try.func45, Try.ntmps45
  go_wp2_with fail
  refine C.mono ?_
  rintro e w' ⟨i, rfl, hl, hb⟩
  go_wp2
  go_ret2
  exact ⟨i, rfl, hl, hb⟩

set_option maxHeartbeats 400000 in
theorem child_leaf (b : Nat) (ev : Value) (i : Int) (w : World) (h : NodeW w b ev (.slice none 0 0)) :
    Calls Try.prog 41 #[.pointer (some ⟨b, 0, none⟩), .int .i64 i] w fun e w' => e = .returned (.pointer none) ∧ w = w' := by
  have C := isLeaf_any b ev none 0 0 w h
  go_enter Try.func41, Try.ntmps41
  go_wp2_with fail
  refine C.mono ?_
  rintro e w' ⟨rfl, rfl⟩
  go_wp2
  go_ret
  exact ⟨rfl, rfl⟩

set_option maxHeartbeats 400000 in
theorem child_node (b N : Nat) (ev kv : Value) (bs : List Nat) (i : Nat) (w : World) (h : NodeW w b ev kv) (ho : OwN w N kv bs) (hi : i < bs.length) :
    Calls Try.prog 41 #[.pointer (some ⟨b, 0, none⟩), .int .i64 (i : Int)] w fun e w' => e = .returned (.pointer (some ⟨bs[i], 0, none⟩)) ∧ w = w' := by
  rcases own_val ho with ⟨rfl, h0⟩ | ⟨g, cap, rfl, -⟩
  · omega
  · have c2 := ho.at i hi
    have C := isLeaf_any b ev (some ⟨g, 0, none⟩) bs.length cap w h
    have c1 := h.c1
    have hl0 : decide (bs.length = 0) = false := decide_eq_false (by omega)
    rw [hl0] at C
    have hii : (i : Int) < (bs.length : Int) := by omega
    generalize bs[i] = x at *
    clear h ho
    go_enter Try.func41, Try.ntmps41
    go_wp2_with fail
    refine C.mono ?_
    rintro e w' ⟨rfl, rfl⟩
    go_wp2
    go_ret
    exact ⟨rfl, rfl⟩
end Go.Proofs.Ytmdembfnpmlmaaa
