/-
  Rows of values as they lie in memory; the contract of datum.checked.
  The contract of codec.Text (texts that fit); a value's bytes.
  The contracts of datum.appendValue and datum.Put.
  The contract of datum.Put.
  A scope that is entered ahead of its one label and jumps back to it: what holds at the label each time, and a measure. Nothing of the program is in it.
-/
import Derived.Test.YtnpdecbgakgbgaaGreatDoorVRight2
import Derived.Test.YtnpdecbgakgbgaaGreatDoorMaNums
import Derived.ScopeJumps
import Derived.Tactics
namespace Go.Proofs.YtnpdecbgakgbgaaGreatDoor
open Go.RowKit Go.Shelf
attribute [local go_sem] cell?_more frozen?_more setCell_more more_lt more_more more_drew more_drewN setCell_drewN alloc_drewN

/-- A value lies in four cells of a block. -/
def At4 (w : World) (b o : Nat) (v : Va) : Prop :=
  w.cell? ⟨b, o, none⟩ = some (.int .i64 v.k) ∧ w.cell? ⟨b, o + 1, none⟩ = some (.int .i64 v.n) ∧ w.cell? ⟨b, o + 2, none⟩ = some (.int .i64 v.m) ∧ w.cell? ⟨b, o + 3, none⟩ = some (.string ⟨v.b.toArray⟩)
theorem At4.lt {w : World} {b o : Nat} {v : Va} (h : At4 w b o v) : b < w.heap.size := World.block_lt_of_cell? w _ h.1
theorem At4.later {w w' : World} {b o : Nat} {v : Va} (h : At4 w b o v) (hb : Below w.heap.size w w') : At4 w' b o v :=
  ⟨by rw [hb.cell (p := ⟨b, o, none⟩) h.lt]; exact h.1, by rw [hb.cell (p := ⟨b, o + 1, none⟩) h.lt]; exact h.2.1, by rw [hb.cell (p := ⟨b, o + 2, none⟩) h.lt]; exact h.2.2.1, by rw [hb.cell (p := ⟨b, o + 3, none⟩) h.lt]; exact h.2.2.2⟩

/-- A row of values lies behind an address. -/
def Vs (w : World) (ao : Option Addr) (l : List Va) : Prop :=
  0 < l.length → ∃ b off, ao = some ⟨b, off, none⟩ ∧ ∀ i (h : i < l.length), At4 w b (off + i * 4) l[i]
theorem Vs.later {w w' : World} {ao : Option Addr} {l : List Va} (h : Vs w ao l) (hb : Below w.heap.size w w') : Vs w' ao l := by
  intro hp
  obtain ⟨b, off, e, hc⟩ := h hp
  exact ⟨b, off, e, fun i hi => (hc i hi).later hb⟩

/-- A value that may be, as the program asks it. -/
def vr (v : Va) : Bool := vrt v.k v.n v.m ⟨v.b.toArray⟩
theorem vr_iff (v : Va) : vr v = true ↔ vok Lib.validD v := vrt_iff v.k v.n v.m ⟨v.b.toArray⟩
/-- A value as the program has it. -/
abbrev vv (v : Va) : Value := va v.k v.n v.m ⟨v.b.toArray⟩

/-- The error of a list that is no row. -/
def ckE (l : List Va) : Int := if 64 < l.length then 6 else if l.all vr then 0 else 1

end Go.Proofs.YtnpdecbgakgbgaaGreatDoor

namespace Go.Proofs.YtnpdecbgakgbgaaGreatDoor
open Go.RowKit

def textBytes (s : ByteArray) : List UInt8 := numBytes (s.size : Int) ++ s.data.toList

theorem own_append {w : World} {base n : Nat} {v : Value} {a b : List UInt8} (h : w.ownsRow base 5 1 v n (bv a ++ bv b)) : Own w base v (a ++ b) :=
  own_of (bs := a ++ b) (by rw [bv_append]; exact h)
theorem own_start {w : World} {base : Nat} {v : Value} (h : w.ownsRow base 5 1 v 0 []) : Own w base v [] := h

/-- A value's bytes. -/
def vbytes (v : Va) : List UInt8 :=
  numBytes v.k ++ (if v.k = 1 ∨ v.k = 4 then numBytes v.n else if v.k = 2 ∨ v.k = 5 then numBytes v.n ++ numBytes v.m else if v.k = 3 then textBytes ⟨v.b.toArray⟩ else [])

end Go.Proofs.YtnpdecbgakgbgaaGreatDoor

namespace Go.Proofs.YtnpdecbgakgbgaaGreatDoor
open Go.RowKit
attribute [local go_sem] cell?_more frozen?_more setCell_more more_lt more_more more_drew more_drewN setCell_drewN alloc_drewN

/-- A value lies in a block of its own. -/
def Box (w : World) (p : Nat) (v : Va) : Prop := w.heap[p]? = some (.cells #[.int .i64 v.k, .int .i64 v.n, .int .i64 v.m, .string ⟨v.b.toArray⟩] 30 (0, 0))
theorem Box.lt {w : World} {p : Nat} {v : Va} (h : Box w p v) : p < w.heap.size := by
  by_cases hp : p < w.heap.size
  · exact hp
  · unfold Box at h
    rw [Array.getElem?_eq_none (by omega)] at h
    cases h
theorem Box.later {w w' : World} {p : Nat} {v : Va} (h : Box w p v) (hb : Below w.heap.size w w') : Box w' p v := by
  unfold Box
  rw [hb.block p h.lt]
  exact h
theorem Box.at4 {w : World} {p : Nat} {v : Va} (h : Box w p v) : At4 w p 0 v :=
  ⟨by rw [cell_of_row w p 0 _ _ (0, 0) h]; rfl, by rw [cell_of_row w p (0 + 1) _ _ (0, 0) h]; rfl, by rw [cell_of_row w p (0 + 2) _ _ (0, 0) h]; rfl, by rw [cell_of_row w p (0 + 3) _ _ (0, 0) h]; rfl⟩
theorem Box.kept {w w' : World} {p base : Nat} {v : Va} {x : Value} {bs : List UInt8} (h : Box w p v) (ho : Own w base x bs) (hg : w.grownBy w' x.ownBlock) : Box w' p v := by
  unfold Box
  rw [hg.block p h.lt ?_]
  · exact h
  · intro e
    obtain ⟨h1, h2⟩ := ho
    rcases h2 with ⟨rfl, _⟩ | ⟨g, cap, cur, rfl, _, hg', _⟩
    · simp [Value.ownBlock] at e
    · simp [Value.ownBlock] at e
      subst e
      unfold Box at h
      rw [hg'] at h
      simp at h
theorem Box.free {w : World} {p : Nat} {v : Va} (h : Box w p v) (j : Nat) : w.frozen? ⟨p, j, none⟩ = false := by
  unfold Box at h
  simp [World.frozen?, h]
theorem Box.new (w : World) (k n m : Int) (b : List UInt8) : Box (w.alloc (.cells #[.int .i64 k, .int .i64 n, .int .i64 m, .string ⟨b.toArray⟩] 30)) w.heap.size ⟨k, n, m, b⟩ := by
  unfold Box
  show (w.heap.push _)[w.heap.size]? = _
  simp

end Go.Proofs.YtnpdecbgakgbgaaGreatDoor

namespace Go.Proofs.YtnpdecbgakgbgaaGreatDoor
open Go.RowKit Go.Shelf
attribute [local go_sem] cell?_more frozen?_more setCell_more more_lt more_more more_drew more_drewN setCell_drewN alloc_drewN

/-- A value's numbers are numbers of the program. -/
def vin (v : Va) : Prop := (-9223372036854775808 ≤ v.n ∧ v.n ≤ 9223372036854775807) ∧ (-9223372036854775808 ≤ v.m ∧ v.m ≤ 9223372036854775807)

theorem vbytes_len (v : Va) (hv : vr v = true) : (vbytes v).length ≤ 300 := by
  have hk := (vr_iff v).1 hv
  obtain ⟨k, n, m, b⟩ := v
  have a := (numBytes_len k).2
  have b1 := (numBytes_len n).2
  have b2 := (numBytes_len m).2
  have b3 := (numBytes_len ((ByteArray.mk b.toArray).size : Int)).2
  simp only [vok] at hk
  simp only [vbytes, List.length_append]
  repeat' split
  · omega
  · simp only [List.length_append]; omega
  · have hb : b.length ≤ 256 := by rcases hk with h | h | h | h | h | h <;> (try omega) <;> exact h.2.2.2.1
    have hs : (ByteArray.mk b.toArray).data.toList.length = b.length := by simp
    simp only [textBytes, List.length_append]
    omega
  · simp; omega

/-- Bytes of values, one behind the other. -/
def many (f : Va → List UInt8) (l : List Va) : List UInt8 := l.flatMap f
theorem many_take (f : Va → List UInt8) (l : List Va) (k : Nat) (h : k < l.length) : many f (l.take (k + 1)) = many f (l.take k) ++ f l[k] := by
  unfold many
  rw [← List.take_append_getElem h]
  simp only [List.flatMap_append, List.flatMap_cons, List.flatMap_nil, List.append_nil]
theorem many_len (f : Va → List UInt8) (c : Nat) (l : List Va) (h : ∀ v ∈ l, (f v).length ≤ c) : (many f l).length ≤ c * l.length := by
  induction l with
  | nil => simp [many]
  | cons v l ih =>
    have h1 := h v (by simp)
    have h2 := ih fun v hv => h v (by simp [hv])
    simp only [many, List.flatMap_cons, List.length_append, List.length_cons, Nat.mul_succ] at *
    omega

end Go.Proofs.YtnpdecbgakgbgaaGreatDoor

namespace Go.Proofs.YtnpdecbgakgbgaaGreatDoor

theorem wp_scope_lab {P : Program} {a : Act} {w : World} {Q : Exit → Act → World → Prop} {pre rest : Code} (l : Nat) (J : Act → World → Prop) (μ : Act → World → Nat)
    (hf : findLabel (pre.seq ((Code.label l).seq rest)) l = some (Code.skip.seq rest))
    (start : pre.wp P (Exit.then J (Exit.jump l J Q)) a w)
    (pass : ∀ a w, J a w → rest.wp P (Exit.jump l (fun a' w' => J a' w' ∧ μ a' w' < μ a w) Q) a w) :
    (Code.scope (pre.seq ((Code.label l).seq rest))).wp P Q a w := by
  refine wp_scope_jumps l J μ hf ?_ fun a w h => wp_seq (wp_skip (pass a w h))
  apply wp_seq
  refine wp_mono start fun e a1 w1 h1 => ?_
  cases e with
  | normal =>
    apply wp_seq
    apply wp_label
    refine wp_mono (pass a1 w1 h1) fun e2 a2 w2 h2 => ?_
    cases e2 with
    | goto l' => exact ⟨h2.1, h2.2.1⟩
    | _ => exact h2
  | _ => exact h1
end Go.Proofs.YtnpdecbgakgbgaaGreatDoor
