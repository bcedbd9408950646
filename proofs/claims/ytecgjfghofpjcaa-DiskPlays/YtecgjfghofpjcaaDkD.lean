/-
  A disk as plain data, where it lies; the contracts of wasMade, fault.
-/
import Derived.Test.YtecgjfghofpjcaaDkZ
namespace Go.Proofs.Ytecgjfghofpjcaa
open Go.RowKit Go.Maps

structure Dk where
  lo : Lo
  count : Int
  old : Pf
  fresh : Pf
  off : Bool
  left : Int

/-- Where a disk lies. -/
structure Wh where
  B : Nat
  F : Nat
  L : Nat
  P : Nat
  mo : Nat
  mf : Nat
  g : Option Nat

def Wh.has (h : Wh) (k : Nat) : Prop := k = h.B ∨ k = h.F ∨ k = h.L ∨ k = h.P ∨ k = h.mo ∨ k = h.mf ∨ some k = h.g

structure DkW (w : World) (h : Wh) (no nf : Nat) (d : Dk) : Prop where
  b : w.heap[h.B]? = some (.cells #[.pointer (some ⟨h.F, 0, none⟩), .pointer (some ⟨h.L, 0, none⟩), .pointer (some ⟨h.P, 0, none⟩)] 44 (0, 0))
  z : Fz w h.F d.off d.left
  l : Lg w h.L h.g d.lo
  p : Pg w h.P h.mo h.mf no nf d.count d.old d.fresh
  lf : d.left ≤ 9223372036854775807

theorem cne {w : World} {a b : Nat} {c c' : Array Value} {t t' : TypeId} {f f' : Nat × Nat} (h : w.heap[a]? = some (.cells c t f)) (h' : w.heap[b]? = some (.cells c' t' f')) (ht : t ≠ t') : a ≠ b := by
  rintro rfl
  rw [h] at h'
  cases h'
  exact ht rfl

theorem DkW.kept {w w' : World} {h : Wh} {no nf : Nat} {d : Dk} (hd : DkW w h no nf d) (hk : ∀ k, h.has k → w'.heap[k]? = w.heap[k]?) : DkW w' h no nf d :=
  ⟨by rw [hk _ (.inl rfl), hd.b], by unfold Fz; rw [hk _ (.inr (.inl rfl))]; exact hd.z, hd.l.kept (hk _ (.inr (.inr (.inl rfl)))) (fun b e => hk b (.inr (.inr (.inr (.inr (.inr (.inr e.symm))))))),
    hd.p.kept (hk _ (.inr (.inr (.inr (.inl rfl))))) (hk _ (.inr (.inr (.inr (.inr (.inl rfl)))))) (hk _ (.inr (.inr (.inr (.inr (.inr (.inl rfl))))))), hd.lf⟩

theorem DkW.lt {w : World} {h : Wh} {no nf : Nat} {d : Dk} (hd : DkW w h no nf d) {k : Nat} (hk : h.has k) : k < w.heap.size := by
  rcases hk with rfl | rfl | rfl | rfl | rfl | rfl | e
  · exact bl_lt hd.b
  · exact bl_lt hd.z
  · obtain ⟨_, sv, h1, _⟩ := hd.l; exact bl_lt h1
  · exact bl_lt hd.p.b
  · exact hd.p.o.lt
  · exact hd.p.f.lt
  · obtain ⟨_, sv, _, h1⟩ := hd.l; exact h1.lt e.symm

/-- The log's block, and that of its bytes, are none of the others. -/
theorem DkW.lcells {w : World} {h : Wh} {no nf : Nat} {d : Dk} (hd : DkW w h no nf d) : ∃ cs, w.heap[h.L]? = some (.cells cs 68 (0, 0)) := by
  obtain ⟨_, sv, h1, _⟩ := hd.l; exact ⟨_, h1⟩

theorem DkW.gcells {w : World} {h : Wh} {no nf : Nat} {d : Dk} (hd : DkW w h no nf d) {k : Nat} (hk : some k = h.g) : ∃ cs, w.heap[k]? = some (.cells cs 5 (0, 0)) := by
  obtain ⟨_, sv, _, h1⟩ := hd.l
  rcases h1 with ⟨_, _, e⟩ | ⟨b, o, cap, cur, _, h2, h3, _⟩
  · rw [e] at hk; cases hk
  · rw [h2] at hk; cases hk; exact ⟨_, h3⟩

/-- The fuse has changed alone. -/
theorem DkW.setF {w w' : World} {h : Wh} {no nf : Nat} {d : Dk} (hd : DkW w h no nf d) {off : Bool} {left : Int} (hz : Fz w' h.F off left) (hC : Chg (fun k => k = h.F) w w') (hl : left ≤ 9223372036854775807) : DkW w' h no nf { d with off := off, left := left } := by
  obtain ⟨cL, hL⟩ := hd.lcells
  have kp : ∀ k, h.has k → k ≠ h.F → w'.heap[k]? = w.heap[k]? := fun k hk hn => hC.block k (hd.lt hk) hn
  refine ⟨by rw [kp _ (.inl rfl) (cne hd.b hd.z (by decide)), hd.b], hz, hd.l.kept (kp _ (.inr (.inr (.inl rfl))) (cne hL hd.z (by decide))) (fun b e => kp b (.inr (.inr (.inr (.inr (.inr (.inr e.symm)))))) ?_), hd.p.kept (kp _ (.inr (.inr (.inr (.inl rfl)))) (cne hd.p.b hd.z (by decide))) (kp _ (.inr (.inr (.inr (.inr (.inl rfl))))) (hd.p.o.ne hd.z)) (kp _ (.inr (.inr (.inr (.inr (.inr (.inl rfl)))))) (hd.p.f.ne hd.z)), hl⟩
  obtain ⟨c, hc⟩ := hd.gcells e.symm
  exact cne hc hd.z (by decide)

/-- The log has changed alone. -/
theorem DkW.setL {w w' : World} {h : Wh} {no nf : Nat} {d : Dk} (hd : DkW w h no nf d) {g' : Option Nat} {lo : Lo} (hl : Lg w' h.L g' lo) (hC : Chg (fun k => k = h.L ∨ some k = h.g) w w') : DkW w' { h with g := g' } no nf { d with lo := lo } := by
  obtain ⟨cL, hL⟩ := hd.lcells
  have kp : ∀ k, h.has k → k ≠ h.L → some k ≠ h.g → w'.heap[k]? = w.heap[k]? := fun k hk hn hg => hC.block k (hd.lt hk) (fun e => e.elim hn hg)
  have ng : ∀ {k : Nat} {c : Array Value} {t : TypeId}, w.heap[k]? = some (.cells c t (0, 0)) → t ≠ 5 → some k ≠ h.g := fun hk ht e => by
    obtain ⟨c, hc⟩ := hd.gcells e
    exact cne hk hc ht rfl
  have nm : ∀ {k n : Nat} {f : Pf}, MO w k n f → some k ≠ h.g := fun hk e => by
    obtain ⟨c, hc⟩ := hd.gcells e
    exact hk.ne hc rfl
  exact ⟨by rw [← hd.b]; exact kp _ (.inl rfl) (cne hd.b hL (by decide)) (ng hd.b (by decide)), by unfold Fz; rw [kp _ (.inr (.inl rfl)) (cne hd.z hL (by decide)) (ng hd.z (by decide))]; exact hd.z, hl,
    hd.p.kept (kp _ (.inr (.inr (.inr (.inl rfl)))) (cne hd.p.b hL (by decide)) (ng hd.p.b (by decide))) (kp _ (.inr (.inr (.inr (.inr (.inl rfl))))) (hd.p.o.ne hL) (nm hd.p.o)) (kp _ (.inr (.inr (.inr (.inr (.inr (.inl rfl)))))) (hd.p.f.ne hL) (nm hd.p.f)), hd.lf⟩

/-- The pages have changed alone. -/
theorem DkW.setP {w w' : World} {h : Wh} {no nf no' nf' mf' : Nat} {d : Dk} (hd : DkW w h no nf d) {old fresh : Pf} (hp : Pg w' h.P h.mo mf' no' nf' d.count old fresh) (hC : Chg (fun k => k = h.P ∨ k = h.mo ∨ k = h.mf) w w') : DkW w' { h with mf := mf' } no' nf' { d with old := old, fresh := fresh } := by
  obtain ⟨cL, hL⟩ := hd.lcells
  have kp : ∀ k, h.has k → k ≠ h.P → k ≠ h.mo → k ≠ h.mf → w'.heap[k]? = w.heap[k]? := fun k hk h1 h2 h3 => hC.block k (hd.lt hk) (fun e => e.elim h1 (fun e => e.elim h2 h3))
  have q : ∀ {k : Nat} {c : Array Value} {t : TypeId}, w.heap[k]? = some (.cells c t (0, 0)) → t ≠ 71 → h.has k → w'.heap[k]? = w.heap[k]? := fun hk ht hh => kp _ hh (cne hk hd.p.b ht) (fun e => hd.p.o.ne hk e.symm) (fun e => hd.p.f.ne hk e.symm)
  exact ⟨by rw [← hd.b]; exact q hd.b (by decide) (.inl rfl), by unfold Fz; rw [q hd.z (by decide) (.inr (.inl rfl))]; exact hd.z, hd.l.kept (q hL (by decide) (.inr (.inr (.inl rfl)))) (fun b e => by
    obtain ⟨c, hc⟩ := hd.gcells e.symm
    exact q hc (by decide) (.inr (.inr (.inr (.inr (.inr (.inr e.symm))))))), hp, hd.lf⟩

theorem wasMade_any (h : Wh) (no nf : Nat) (d : Dk) (w : World) (hd : DkW w h no nf d) :
    Calls Try.prog 39 #[.pointer (some ⟨h.B, 0, none⟩)] w fun e w' => e = .returned (.bool true) ∧ w' = w := by
  have c0 := bl_cell hd.b 0 _ rfl
  clear hd
  go_enter Try.func39, Try.ntmps39
  go_wp2
  go_ret
  exact ⟨rfl, rfl⟩

/-- No disk, or one that nobody made. -/
def Bare (w : World) (v : Value) : Prop := v = .pointer none ∨ ∃ B, v = .pointer (some ⟨B, 0, none⟩) ∧ w.heap[B]? = some (.cells #[.pointer none, .pointer none, .pointer none] 44 (0, 0))

theorem wasMade_bare (v : Value) (w : World) (hv : Bare w v) :
    Calls Try.prog 39 #[v] w fun e w' => e = .returned (.bool false) ∧ w' = w := by
  rcases hv with rfl | ⟨B, rfl, hB⟩
  · go_enter Try.func39, Try.ntmps39
    go_wp2
    go_ret
    exact ⟨rfl, rfl⟩
  · have c0 : w.cell? ⟨B, 0, none⟩ = some (.pointer none) := bl_cell hB 0 _ rfl
    clear hB
    go_enter Try.func39, Try.ntmps39
    go_wp2
    go_ret
    exact ⟨rfl, rfl⟩

theorem fault_bare (v : Value) (w : World) (hv : Bare w v) :
    Calls Try.prog 34 #[v] w fun e w' => e = .returned (.int .i64 1) ∧ w' = w := by
  have C := wasMade_bare v w hv
  clear hv
  go_enter Try.func34, Try.ntmps34
  go_wp2_with (go_at_call 39; refine C.mono ?_; rintro e w' ⟨rfl, rfl⟩)
  go_ret
  exact ⟨rfl, rfl⟩

theorem fault_any (h : Wh) (no nf : Nat) (d : Dk) (w : World) (hd : DkW w h no nf d) :
    Calls Try.prog 34 #[.pointer (some ⟨h.B, 0, none⟩)] w fun e w' => e = .returned (.int .i64 (if d.off = true then 9 else 0)) ∧ w' = w := by
  have C := wasMade_any h no nf d w hd
  have c0 : w.cell? ⟨h.B, 0, none⟩ = some (.pointer (some ⟨h.F, 0, none⟩)) := bl_cell hd.b 0 _ rfl
  have c1 : w.cell? ⟨h.F, 0, none⟩ = some (.bool d.off) := bl_cell hd.z 0 _ rfl
  clear hd
  generalize d.off = off at *
  cases off with
  | true =>
    go_enter Try.func34, Try.ntmps34
    go_wp2_with (go_at_call 39; refine C.mono ?_; rintro e w' ⟨rfl, rfl⟩)
    go_ret
    exact ⟨rfl, rfl⟩
  | false =>
    go_enter Try.func34, Try.ntmps34
    go_wp2_with (go_at_call 39; refine C.mono ?_; rintro e w' ⟨rfl, rfl⟩)
    go_ret
    exact ⟨rfl, rfl⟩
end Go.Proofs.Ytecgjfghofpjcaa
