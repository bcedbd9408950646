/-
  The contracts of disk's fuse and log.
-/
import Derived.Test.YtecgjfghofpjcaaDkA
import Derived.WalkLawsBesides
import Derived.BigQuiet
import Derived.Deep.QuietTactic
import Derived.Deep.RegionHeld3
import Derived.Shelf.RegionOpenPlain
namespace Go.Proofs.Ytecgjfghofpjcaa
open Go.RowKit

theorem bl_lt {w : World} {b : Nat} {t : TypeId} {cs : Array Value} {f : Nat × Nat} (h : w.heap[b]? = some (.cells cs t f)) : b < w.heap.size := (Array.getElem?_eq_some_iff.1 h).1

theorem bl_set {w : World} {b : Nat} {t : TypeId} {cs : Array Value} (h : w.heap[b]? = some (.cells cs t (0, 0))) (i : Nat) (v : Value) : (w.setCell ⟨b, i, none⟩ v).heap[b]? = some (.cells (cs.setIfInBounds i v) t (0, 0)) := by
  obtain ⟨hlt, hk⟩ := Array.getElem?_eq_some_iff.1 h
  show (w.heap.modify b _)[b]? = _
  rw [Array.getElem?_eq_getElem (by rw [Array.size_modify]; exact hlt), Array.getElem_modify_self, hk]
  rfl

theorem bl_cell {w : World} {b : Nat} {t : TypeId} {cs : Array Value} (h : w.heap[b]? = some (.cells cs t (0, 0))) (i : Nat) (v : Value) (hv : cs[i]? = some v) : w.cell? ⟨b, i, none⟩ = some v := by
  simp [World.cell?, h, hv]

theorem bl_open {w : World} {b : Nat} {t : TypeId} {cs : Array Value} (h : w.heap[b]? = some (.cells cs t (0, 0))) (i : Nat) : w.frozen? ⟨b, i, none⟩ = false := by
  simp [World.frozen?, h]

/-- The fuse. -/
def Fz (w : World) (F : Nat) (off : Bool) (left : Int) : Prop := w.heap[F]? = some (.cells #[.bool off, .int .i64 left] 66 (0, 0))

theorem newFuse_any (w : World) : Calls Try.prog 9 #[] w fun e w' => e = .returned (.pointer (some ⟨w.heap.size, 0, none⟩)) ∧ Fz w' w.heap.size false (-1) ∧ Below w.heap.size w w' := by
  go_enter Try.func9, Try.ntmps9
  go_wp2
  go_ret
  exact ⟨rfl, heap_alloc_new w _, (Below.refl _ _).alloc (Nat.le_refl _) _⟩

/-- What burning leaves. -/
def burnOff (left : Int) (off : Bool) : Bool := if left = 0 then true else off

def burnLeft (left : Int) : Int := if 0 < left then left - 1 else left

theorem burn_any (F : Nat) (off : Bool) (left : Int) (w : World) (h : Fz w F off left) (hb : left ≤ 9223372036854775807) :
    Calls Try.prog 36 #[.pointer (some ⟨F, 0, none⟩)] w fun e w' => e = .returned (.bool (decide (left ≠ 0))) ∧ Fz w' F (burnOff left off) (burnLeft left) ∧ Chg (fun k => k = F) w w' := by
  have c0 := bl_cell h 0 _ rfl
  have c1 := bl_cell h 1 _ rfl
  have f0 := bl_open h 0
  have f1 := bl_open h 1
  by_cases h0 : left = 0
  · subst h0
    go_enter Try.func36, Try.ntmps36
    go_wp2
    go_ret
    exact ⟨rfl, bl_set h 0 _, chg_set _ _ _ _⟩
  · by_cases h1 : 0 < left
    · have hw : IntKind.i64.wrap (left - 1) = left - 1 := by rw [IntKind.wrap_i64]; omega
      go_enter Try.func36, Try.ntmps36
      go_wp2
      go_ret
      refine ⟨by simp [h0], ?_, chg_set _ _ _ _⟩
      have := bl_set h 1 (.int .i64 (left - 1))
      unfold Fz burnOff burnLeft
      rw [if_neg h0, if_pos h1]
      exact this
    · go_enter Try.func36, Try.ntmps36
      go_wp2
      go_ret
      refine ⟨by simp, ?_, Chg.refl _ _⟩
      unfold Fz burnOff burnLeft
      rw [if_neg h0, if_neg (by omega)]
      exact h

theorem light_any (F : Nat) (off : Bool) (left k : Int) (w : World) (h : Fz w F off left) :
    Calls Try.prog 52 #[.pointer (some ⟨F, 0, none⟩), .int .i64 k] w fun e w' => (∃ v, e = .returned v) ∧ Fz w' F off k ∧ Chg (fun k => k = F) w w' := by
  have f1 := bl_open h 1
  have c1 := bl_cell h 1 _ rfl
  go_enter Try.func52, Try.ntmps52
  go_wp2
  go_end0
  exact ⟨⟨_, rfl⟩, bl_set h 1 _, chg_set _ _ _ _⟩

theorem renew_any (F : Nat) (off : Bool) (left : Int) (w : World) (h : Fz w F off left) :
    Calls Try.prog 42 #[.pointer (some ⟨F, 0, none⟩)] w fun e w' => (∃ v, e = .returned v) ∧ Fz w' F false (-1) ∧ Chg (fun k => k = F) w w' := by
  have CN := newFuse_any w
  have hF := bl_lt h
  go_enter Try.func42, Try.ntmps42
  go_wp2_with fail
  refine CN.mono ?_
  rintro e w1 ⟨rfl, h1, b1⟩
  have n0 := bl_cell h1 0 _ rfl
  have n1 := bl_cell h1 1 _ rfl
  have h2 : Fz w1 F off left := (b1.block F hF).trans h
  have f0 := bl_open h2 0
  have f1 := bl_open h2 1
  have c0 := bl_cell h2 0 _ rfl
  have c1 := bl_cell h2 1 _ rfl
  clear h1
  go_wp2
  go_end0
  refine ⟨⟨_, rfl⟩, bl_set (bl_set h2 0 _) 1 _, ?_⟩
  exact (chg_of_below b1).trans ((chg_set _ _ _ _).trans (chg_set _ _ _ _) (fun _ _ e => e) (fun _ _ e => e)) (fun _ _ e => e) (fun _ _ e => e)

theorem wrap64_eq (x : Int) : wrap64 x = IntKind.i64.wrap x := by rw [IntKind.wrap_i64]; unfold wrap64; omega

/-- The log as plain data. -/
structure Lo where
  most : Int
  base : Int
  bytes : List UInt8
  sure : Nat

/-- A log that may be. -/
structure LoOk (l : Lo) : Prop where
  m1 : 1 ≤ l.most
  m2 : l.most ≤ 16777216
  b1 : -9223372036854775808 ≤ l.base
  b2 : l.base ≤ 9223372036854775807
  len : (l.bytes.length : Int) ≤ l.most
  sure : l.sure ≤ l.bytes.length

theorem LoOk.len' {l : Lo} (h : LoOk l) : l.bytes.length ≤ 16777216 := by have := h.len; have := h.m2; omega

/-- A log in the block L, its bytes in the block g. -/
def Lg (w : World) (L : Nat) (g : Option Nat) (l : Lo) : Prop :=
  LoOk l ∧ ∃ sv, w.heap[L]? = some (.cells #[.int .i64 l.most, .int .i64 l.base, sv, .int .i64 (l.sure : Int)] 68 (0, 0)) ∧ Ob w sv g l.bytes

/-- Where the log goes on. -/
def Lo.fin (l : Lo) : Int := IntKind.i64.wrap (l.base + (l.bytes.length : Int))

def Lo.has (l : Lo) (at_ : Int) : Bool := decide (l.base ≤ at_) && decide (at_ ≤ l.fin)

theorem ob_ne {w : World} {L : Nat} {t : TypeId} {cs : Array Value} {v : Value} {g : Option Nat} {bs : List UInt8} (h : w.heap[L]? = some (.cells cs t (0, 0))) (ho : Ob w v g bs) (ht : t ≠ 5) : g ≠ some L := by
  rintro rfl
  rcases ho with ⟨_, _, h1⟩ | ⟨b, o, cap, cur, _, h2, h3, _⟩
  · cases h1
  · cases h2
    rw [h] at h3
    simp at h3
    exact ht h3.2

theorem Ob.set {w : World} {L : Nat} {t : TypeId} {cs : Array Value} {v : Value} {g : Option Nat} {bs : List UInt8} (ho : Ob w v g bs) (h : w.heap[L]? = some (.cells cs t (0, 0))) (ht : t ≠ 5) (i : Nat) (u : Value) : Ob (w.setCell ⟨L, i, none⟩ u) v g bs :=
  ho.kept (fun b hb => Below.heap_setCell _ _ _ b (fun e => ob_ne h ho ht (by rw [hb]; exact congrArg some e)))

theorem Lg.kept {w w' : World} {L : Nat} {g : Option Nat} {l : Lo} (h : Lg w L g l) (hL : w'.heap[L]? = w.heap[L]?) (hg : ∀ b, g = some b → w'.heap[b]? = w.heap[b]?) : Lg w' L g l := by
  obtain ⟨h1, sv, h2, h3⟩ := h
  exact ⟨h1, sv, by rw [hL, h2], h3.kept hg⟩

theorem newLog_any (most : Int) (h1 : 1 ≤ most) (h2 : most ≤ 16777216) (w : World) :
    Calls Try.prog 10 #[.int .i64 most] w fun e w' => e = .returned (.pointer (some ⟨w.heap.size, 0, none⟩)) ∧ Lg w' w.heap.size none ⟨most, 0, [], 0⟩ ∧ Below w.heap.size w w' := by
  go_enter Try.func10, Try.ntmps10
  go_wp2
  go_ret
  exact ⟨rfl, ⟨⟨h1, h2, by simp, by simp, by simp; omega, by simp⟩, _, heap_alloc_new w _, Ob.nil _⟩, (Below.refl _ _).alloc (Nat.le_refl _) _⟩

theorem end_any (L : Nat) (g : Option Nat) (l : Lo) (w : World) (h : Lg w L g l) :
    Calls Try.prog 37 #[.pointer (some ⟨L, 0, none⟩)] w fun e w' => e = .returned (.int .i64 l.fin) ∧ Below w.heap.size w w' := by
  obtain ⟨ok, sv, hL, ho⟩ := h
  have c1 := bl_cell hL 1 _ rfl
  obtain ⟨ao, cap, rfl, -, -, -⟩ := ho.form
  have c2 : w.cell? ⟨L, 2, none⟩ = some (.slice ao l.bytes.length cap) := bl_cell hL 2 _ rfl
  clear ho
  have d1 : ∀ q, (w.drewN q).cell? ⟨L, 1, none⟩ = _ := fun q => c1
  have d2 : ∀ q, (w.drewN q).cell? ⟨L, 2, none⟩ = _ := fun q => c2
  clear c1 c2
  go_enter Try.func37, Try.ntmps37
  go_wp2
  go_quiet (fail)
  go_wp2
  go_ret
  exact ⟨ret_int (wrap64_eq _), below_drewN (Below.refl _ _) _⟩

theorem has_any (L : Nat) (g : Option Nat) (l : Lo) (at_ : Int) (w : World) (h : Lg w L g l) :
    Calls Try.prog 43 #[.pointer (some ⟨L, 0, none⟩), .int .i64 at_] w fun e w' => e = .returned (.bool (l.has at_)) ∧ Below w.heap.size w w' := by
  have CE := end_any L g l w h
  obtain ⟨ok, sv, hL, ho⟩ := h
  have c1 := bl_cell hL 1 _ rfl
  unfold Lo.has
  generalize l.fin = fn at *
  generalize l.base = ba at *
  clear ho hL
  by_cases h1 : ba ≤ at_
  · go_enter Try.func43, Try.ntmps43
    go_wp2_with (go_at_call 37; refine CE.mono ?_; rintro e w' ⟨rfl, b1⟩)
    go_ret
    exact ⟨by simp [h1], b1⟩
  · go_enter Try.func43, Try.ntmps43
    go_wp2_with (go_at_call 37; refine CE.mono ?_; rintro e w' ⟨rfl, b1⟩)
    go_ret
    exact ⟨by simp; intro; omega, Below.refl _ _⟩

theorem hasRoom_any (L : Nat) (g : Option Nat) (l : Lo) (n : Nat) (hn : n ≤ 9223372036837998591) (w : World) (h : Lg w L g l) :
    Calls Try.prog 35 #[.pointer (some ⟨L, 0, none⟩), .int .i64 (n : Int)] w fun e w' => e = .returned (.bool (decide ((l.bytes.length : Int) + n ≤ l.most))) ∧ Below w.heap.size w w' := by
  obtain ⟨ok, sv, hL, ho⟩ := h
  have c0 := bl_cell hL 0 _ rfl
  obtain ⟨ao, cap, rfl, -, -, -⟩ := ho.form
  have c2 : w.cell? ⟨L, 2, none⟩ = some (.slice ao l.bytes.length cap) := bl_cell hL 2 _ rfl
  have hl := ok.len'
  have hw : IntKind.i64.wrap ((l.bytes.length : Int) + n) = (l.bytes.length : Int) + n := by rw [IntKind.wrap_i64]; omega
  clear ho hL ok
  have d0 : ∀ q, (w.drewN q).cell? ⟨L, 0, none⟩ = _ := fun q => c0
  have d2 : ∀ q, (w.drewN q).cell? ⟨L, 2, none⟩ = _ := fun q => c2
  clear c0 c2
  go_enter Try.func35, Try.ntmps35
  go_wp2
  go_quiet (fail)
  go_wp2
  go_ret
  exact ⟨rfl, below_drewN (Below.refl _ _) _⟩

theorem lsync_any (L : Nat) (g : Option Nat) (l : Lo) (w : World) (h : Lg w L g l) :
    Calls Try.prog 46 #[.pointer (some ⟨L, 0, none⟩)] w fun e w' => (∃ v, e = .returned v) ∧ Lg w' L g { l with sure := l.bytes.length } ∧ Chg (fun k => k = L) w w' := by
  obtain ⟨ok, sv, hL, ho⟩ := h
  have c3 := bl_cell hL 3 _ rfl
  have f3 := bl_open hL 3
  obtain ⟨ao, cap, rfl, -, -, -⟩ := ho.form
  have c2 : w.cell? ⟨L, 2, none⟩ = some (.slice ao l.bytes.length cap) := bl_cell hL 2 _ rfl
  have ho' := ho.set hL (by decide) 3 (.int .i64 (l.bytes.length : Int))
  have hL' := bl_set hL 3 (.int .i64 (l.bytes.length : Int))
  clear ho hL
  go_enter Try.func46, Try.ntmps46
  go_wp2
  go_end0
  exact ⟨⟨_, rfl⟩, ⟨⟨ok.m1, ok.m2, ok.b1, ok.b2, ok.len, Nat.le_refl _⟩, _, hL', ho'⟩, chg_set _ _ _ _⟩
end Go.Proofs.Ytecgjfghofpjcaa
