/-
  The contracts of (*codec.Reader).pass, Number, Text, Left, Done and codec.NewReader: what each call tells, and what it leaves.
  The contracts of codec.NewReader and of (*codec.Reader).Left and Done, also of no Reader and of one that nobody made.
  Tokens of a text, with no program in it: words, signs, numbers and texts by their bytes; the tokens of a text, of a text with blanks around it, of two texts with a blank between.
  A scope with several labels: what holds at each of them whenever it is jumped to, and a measure. Nothing of the program is in it.
-/
import Derived.Test.YtafmchgncahafaaGreatDoorMfKRdr
import Derived.WalkKit
import Derived.ScopeJumps
import Derived.Tactics
namespace Go.Proofs.YtafmchgncahafaaGreatDoor.Co
open Go.RowKit

theorem gb_trans {a b c : World} {r : Option Nat} (h : a.grownBy b r) (k : b.grownBy c r) : a.grownBy c r :=
  ⟨k.os.trans h.os, k.tape.trans h.tape, k.output.trans h.output, Nat.le_trans h.size k.size, fun i hi hne => (k.block i (Nat.lt_of_lt_of_le hi h.size) hne).trans (h.block i hi hne)⟩
theorem gb_drewN (w : World) (q : Nat) (r : Option Nat) : w.grownBy (w.drewN q) r := by
  have h := below_drewN (B := w.heap.size) (Below.refl _ w) q
  exact ⟨h.os, h.tape, h.output, h.size, fun k hk _ => h.block k hk⟩
theorem gb_setCell (w : World) (p j : Nat) (v : Value) : w.grownBy (w.setCell ⟨p, j, none⟩ v) (some p) :=
  ⟨rfl, rfl, rfl, by simp [World.setCell], fun k _ hne => Below.heap_setCell _ _ _ _ (fun e => hne (by rw [e]))⟩
theorem gb_below {a b : World} {p B : Nat} (h : a.grownBy b (some p)) (hp : B ≤ p) (hB : B ≤ a.heap.size) : Below B a b :=
  (Below.refl _ _).grown h hB (fun k hk => by cases hk; exact hp)

theorem row_setCell {w : World} {p j : Nat} {C : Array Value} {t : TypeId} {u : Value} (h : w.heap[p]? = some (.cells C t (0, 0))) :
    (w.setCell ⟨p, j, none⟩ u).heap[p]? = some (.cells (C.setIfInBounds j u) t (0, 0)) := by
  simp [World.setCell, Array.getElem?_modify, h]

theorem rCells_pass {w : World} {p : Nat} {ao : Option Addr} {n cap : Nat} {k e k' e' : Int} {t : TypeId} (h : w.heap[p]? = some (.cells (rCells ao n cap k e) t (0, 0))) :
    ((w.setCell ⟨p, 2, none⟩ (.int .i64 k')).setCell ⟨p, 3, none⟩ (.int .i64 e')).heap[p]? = some (.cells (rCells ao n cap k' e') t (0, 0)) :=
  row_setCell (row_setCell h)

set_option maxHeartbeats 400000 in
theorem pass_any (p : Nat) (bs : List UInt8) (k e s e1 : Nat) (w : World) (h : Rdr w p bs k e) (hs : k + s ≤ bs.length) :
    Calls Tryz.prog 49 #[.pointer (some ⟨p, 0, none⟩), .int .i64 (s : Int), .int .i64 (e1 : Int)] w fun x w' => x = .returned (.tuple #[]) ∧ Rdr w' p bs (k + s) e1 ∧ w.grownBy w' (some p) := by
  obtain ⟨ao, cap, hb, hr, hk, hg⟩ := h
  obtain ⟨c0, c1, c2, c3⟩ := rCell w hb
  have f2 := rCells_free hb 2
  have f3 := rCells_free hb 3
  have hn := hr.2.2.1
  have hnc := hr.2.1
  unfold maxLen at hn
  have hsum : (k : Int) + (s : Int) ≤ 9223372036854775807 := by omega
  have HB : Hid (w.heap[p]? = some (.cells (rCells ao bs.length cap (k : Int) (e : Int)) 74 (0, 0))) := hb
  clear hb
  go_enter Tryz.func49, Tryz.ntmps49
  go_wp2
  go_end0
  have hG : w.grownBy ((w.setCell ⟨p, 2, none⟩ (.int .i64 ((k : Int) + (s : Int)))).setCell ⟨p, 3, none⟩ (.int .i64 (e1 : Int))) (some p) := gb_trans (gb_setCell _ _ _ _) (gb_setCell _ _ _ _)
  refine ⟨rfl, ⟨ao, cap, ?_, ?_, hs, hg⟩, hG⟩
  · rw [show ((k + s : Nat) : Int) = (k : Int) + (s : Int) from by omega]
    exact rCells_pass HB.out
  · refine hr.kept fun b off hao hlt => hG.block b hlt ?_
    rcases hg with h | ⟨g, h, hne⟩
    · rw [h] at hao; cases hao
    · rw [h] at hao
      cases hao
      intro e
      exact hne (Option.some.inj e)

theorem takeN_le (bs : List UInt8) : (takeN bs).2.1 ≤ bs.length := by
  have key : ∀ (f i u : Nat) (bs : List UInt8), (takeGo f i u bs).2.1 ≤ i + bs.length := by
    intro f
    induction f with
    | zero => intro i u bs; cases bs <;> simp [takeGo]
    | succ f ih =>
      intro i u bs
      cases bs with
      | nil => simp [takeGo]
      | cons g r =>
        simp only [takeGo]
        split
        · simp
        · split
          · split
            · simp
            · simp
          · have := ih (i + 1) (u + g.toNat % 128 * 128 ^ i) r
            simp only [List.length_cons]
            omega
  have := key 10 0 0 bs
  unfold takeN
  omega
theorem takeT_le (bs : List UInt8) : (takeT bs).2.1 ≤ bs.length := by
  unfold takeT
  split
  · simp
  · split
    · simp
    · rename_i h1 h2
      have := takeL_size bs (by omega)
      show (takeL bs).2.1 + (takeL bs).1 ≤ _
      omega

/-- What Number and Text answer, how many bytes are passed then, which error is the first. -/
def rNum (bs : List UInt8) (k e : Nat) : Int × Nat × Nat :=
  if e ≠ 0 then (0, k, e) else (numOf (takeN (bs.drop k)), k + (takeN (bs.drop k)).2.1, (takeN (bs.drop k)).2.2)
def rTxt (bs : List UInt8) (k e : Nat) : List UInt8 × Nat × Nat :=
  if e ≠ 0 then ([], k, e) else ((takeT (bs.drop k)).1, k + (takeT (bs.drop k)).2.1, (takeT (bs.drop k)).2.2)

set_option maxHeartbeats 400000 in
theorem rNumber_any (p : Nat) (bs : List UInt8) (k e : Nat) (w : World) (h : Rdr w p bs k e) :
    Calls Tryz.prog 22 #[.pointer (some ⟨p, 0, none⟩)] w fun x w' => x = .returned (.int .i64 (rNum bs k e).1) ∧ Rdr w' p bs (rNum bs k e).2.1 (rNum bs k e).2.2 ∧ w.grownBy w' (some p) := by
  by_cases he : e = 0
  · subst he
    have hN : rNum bs k 0 = (numOf (takeN (bs.drop k)), k + (takeN (bs.drop k)).2.1, (takeN (bs.drop k)).2.2) := rfl
    rw [hN]
    have hle := takeN_le (bs.drop k)
    have hkb : k ≤ bs.length := by obtain ⟨_, _, _, _, hk, _⟩ := h; exact hk
    rw [List.length_drop] at hle
    clear hN
    go_enter Tryz.func22, Tryz.ntmps22
    go_wp2_with fail
    refine (err_yes p bs k 0 _ h).mono ?_
    rintro x w' ⟨rfl, rfl⟩
    go_wp2_with fail
    refine (rest_any p bs k 0 _ h).mono ?_
    rintro x w1 ⟨ao, cap, nq, rfl, rfl, hr⟩
    go_wp2_with fail
    refine (takeNumber_any ao _ cap (bs.drop k) _ (hr.drewN nq)).mono ?_
    rintro x w1 ⟨rfl, rfl⟩
    go_wp2_with fail
    refine (pass_any p bs k 0 _ _ _ (h.drewN nq) (by omega)).mono ?_
    rintro x w2 ⟨rfl, h2, hg⟩
    go_wp2
    go_ret
    exact ⟨rfl, h2, gb_trans (gb_drewN w nq _) hg⟩
  · have hN : rNum bs k e = (0, k, e) := by unfold rNum; rw [if_pos he]
    rw [hN]
    have he2 : ((e : Int) != 0) = true := by simp; omega
    clear hN he
    go_enter Tryz.func22, Tryz.ntmps22
    go_wp2_with fail
    refine (err_yes p bs k e _ h).mono ?_
    rintro x w' ⟨rfl, rfl⟩
    go_wp2
    go_ret
    exact ⟨rfl, h, World.grownBy.refl _ _⟩

set_option maxHeartbeats 400000 in
theorem rText_any (p : Nat) (bs : List UInt8) (k e : Nat) (w : World) (h : Rdr w p bs k e) :
    Calls Tryz.prog 50 #[.pointer (some ⟨p, 0, none⟩)] w fun x w' => x = .returned (.string ⟨(rTxt bs k e).1.toArray⟩) ∧ Rdr w' p bs (rTxt bs k e).2.1 (rTxt bs k e).2.2 ∧ w.grownBy w' (some p) := by
  by_cases he : e = 0
  · subst he
    have hN : rTxt bs k 0 = ((takeT (bs.drop k)).1, k + (takeT (bs.drop k)).2.1, (takeT (bs.drop k)).2.2) := rfl
    rw [hN]
    have hle := takeT_le (bs.drop k)
    have hkb : k ≤ bs.length := by obtain ⟨_, _, _, _, hk, _⟩ := h; exact hk
    rw [List.length_drop] at hle
    clear hN
    go_enter Tryz.func50, Tryz.ntmps50
    go_wp2_with fail
    refine (err_yes p bs k 0 _ h).mono ?_
    rintro x w' ⟨rfl, rfl⟩
    go_wp2_with fail
    refine (rest_any p bs k 0 _ h).mono ?_
    rintro x w1 ⟨ao, cap, nq, rfl, rfl, hr⟩
    go_wp2_with fail
    refine (takeText_any ao _ cap (bs.drop k) _ (hr.drewN nq)).mono ?_
    rintro x w1 ⟨rfl, rfl⟩
    go_wp2_with fail
    refine (pass_any p bs k 0 _ _ _ (h.drewN nq) (by omega)).mono ?_
    rintro x w2 ⟨rfl, h2, hg⟩
    go_wp2
    go_ret
    exact ⟨rfl, h2, gb_trans (gb_drewN w nq _) hg⟩
  · have hN : rTxt bs k e = ([], k, e) := by unfold rTxt; rw [if_pos he]
    rw [hN]
    have he2 : ((e : Int) != 0) = true := by simp; omega
    clear hN he
    go_enter Tryz.func50, Tryz.ntmps50
    go_wp2_with fail
    refine (err_yes p bs k e _ h).mono ?_
    rintro x w' ⟨rfl, rfl⟩
    go_wp2
    go_ret
    exact ⟨rfl, h, World.grownBy.refl _ _⟩
end Go.Proofs.YtafmchgncahafaaGreatDoor.Co

namespace Go.Proofs.YtafmchgncahafaaGreatDoor.Co
open Go.RowKit

set_option maxHeartbeats 400000 in
theorem left_any (p : Nat) (bs : List UInt8) (k e : Nat) (w : World) (h : Rdr w p bs k e) :
    Calls Tryz.prog 51 #[.pointer (some ⟨p, 0, none⟩)] w fun x w' => x = .returned (.int .i64 ((bs.length - k : Nat) : Int)) ∧ ∃ nq, w' = w.drewN nq := by
  obtain ⟨ao, cap, hb, hr0, hk, hg⟩ := id h
  obtain ⟨c0, c1, c2, c3⟩ := rCell w hb
  clear hb hr0 hg
  go_enter Tryz.func51, Tryz.ntmps51
  go_wp2_with fail
  refine (wasMade_yes p _ _ _ c1 c2 c3).mono ?_
  rintro x w' ⟨rfl, rfl⟩
  go_wp2_with fail
  refine (rest_any p bs k e _ h).mono ?_
  rintro x w1 ⟨a1, cap1, nq, rfl, rfl, hr⟩
  clear hr h
  go_wp2
  go_ret
  exact ⟨rfl, nq, rfl⟩

def rDone (bs : List UInt8) (k e : Nat) : Nat := if e ≠ 0 then e else if 0 < bs.length - k then 21 else 0

set_option maxHeartbeats 400000 in
theorem done_any (p : Nat) (bs : List UInt8) (k e : Nat) (w : World) (h : Rdr w p bs k e) :
    Calls Tryz.prog 24 #[.pointer (some ⟨p, 0, none⟩)] w fun x w' => x = .returned (.int .i64 (rDone bs k e : Int)) ∧ ∃ nq, w' = w.drewN nq := by
  by_cases he : e = 0
  · subst he
    by_cases hl : 0 < bs.length - k
    · have hD : rDone bs k 0 = 21 := by unfold rDone; rw [if_neg (by simp), if_pos hl]
      rw [hD]
      clear hD
      have hl' : (0 : Int) < ((bs.length - k : Nat) : Int) := by omega
      have HL := left_any p bs k 0 w h
      generalize bs.length - k = m at HL hl'
      go_enter Tryz.func24, Tryz.ntmps24
      go_wp2_with fail
      refine (err_yes p bs k 0 _ h).mono ?_
      rintro x w' ⟨rfl, rfl⟩
      go_wp2_with fail
      refine HL.mono ?_
      rintro x w1 ⟨rfl, nq, rfl⟩
      clear HL h
      go_wp2
      go_ret
      exact ⟨rfl, nq, rfl⟩
    · have hD : rDone bs k 0 = 0 := by unfold rDone; rw [if_neg (by simp), if_neg hl]
      rw [hD]
      clear hD
      have hl' : ((bs.length - k : Nat) : Int) ≤ 0 := by omega
      have HL := left_any p bs k 0 w h
      generalize bs.length - k = m at HL hl'
      go_enter Tryz.func24, Tryz.ntmps24
      go_wp2_with fail
      refine (err_yes p bs k 0 _ h).mono ?_
      rintro x w' ⟨rfl, rfl⟩
      go_wp2_with fail
      refine HL.mono ?_
      rintro x w1 ⟨rfl, nq, rfl⟩
      clear HL h
      go_wp2
      go_ret
      exact ⟨rfl, nq, rfl⟩
  · have hD : rDone bs k e = e := by unfold rDone; rw [if_pos he]
    rw [hD]
    have he2 : ((e : Int) != 0) = true := by simp; omega
    clear hD he
    go_enter Tryz.func24, Tryz.ntmps24
    go_wp2_with fail
    refine (err_yes p bs k e _ h).mono ?_
    rintro x w' ⟨rfl, rfl⟩
    clear h
    go_wp2
    go_ret
    exact ⟨rfl, 0, rfl⟩
end Go.Proofs.YtafmchgncahafaaGreatDoor.Co

namespace Go.Proofs.YtafmchgncahafaaGreatDoor

section
variable {V : Type} {z : V} {f : List UInt8 → Option V}
end

section
variable {V : Type} {z : V} {f : List UInt8 → Option V}
end
section
variable {V : Type} {z : V} {f : List UInt8 → Option V}
end
end Go.Proofs.YtafmchgncahafaaGreatDoor

namespace Go.Proofs.YtafmchgncahafaaGreatDoor

end Go.Proofs.YtafmchgncahafaaGreatDoor
