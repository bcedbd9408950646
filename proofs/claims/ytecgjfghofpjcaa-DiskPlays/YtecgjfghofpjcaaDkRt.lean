/-
  The walk of DiskRetired.
-/
import Derived.Test.YtecgjfghofpjcaaDkW
import Derived.Deep.Cut
import Derived.Deep.CutRange
namespace Go.Proofs.Ytecgjfghofpjcaa
open Go.RowKit Go.Maps

/-- A disk without a fuse, whose power is on, to which nothing was written since the last sync. -/
def dk (lo : Lo) (c : Int) (old : Pf) : Dk := ⟨lo, c, old, none', false, -1⟩
theorem dk_app (lo : Lo) (c : Int) (old : Pf) (xs : List UInt8) (h : (lo.bytes.length : Int) + xs.length ≤ lo.most) : (dk lo c old).app xs = (lo.fin, 0, dk { lo with bytes := lo.bytes ++ xs } c old) := by
  unfold Dk.app
  rw [if_neg (by simp [dk]), if_neg (fun q => q h), if_neg (by simp [dk])]
  rfl
theorem dk_sync (lo : Lo) (c : Int) (old : Pf) : (dk lo c old).sync = (0, dk { lo with sure := lo.bytes.length } c (over none' old)) := by
  unfold Dk.sync
  rw [if_neg (by simp [dk]), if_neg (by simp [dk])]
  rfl
theorem dk_retire (lo : Lo) (c : Int) (old : Pf) (a : Int) (h : lo.has a = true) : (dk lo c old).retire a = (0, dk { lo with base := a, bytes := lo.bytes.drop (a - lo.base).toNat, sure := lo.sure - (a - lo.base).toNat } c old) := by
  unfold Dk.retire
  rw [if_neg (by simp [dk]), if_neg (by show ¬ lo.has a = false; rw [h]; simp), if_neg (by simp [dk])]
  rfl
theorem dk_cut (lo : Lo) (c : Int) (old : Pf) (a : Int) (h : lo.has a = true) : (dk lo c old).cut a = (0, dk { lo with bytes := lo.bytes.take (a - lo.base).toNat, sure := min lo.sure (a - lo.base).toNat } c old) := by
  unfold Dk.cut
  rw [if_neg (by simp [dk]), if_neg (by show ¬ lo.has a = false; rw [h]; simp), if_neg (by simp [dk])]
  rfl
theorem dk_read (lo : Lo) (c : Int) (old : Pf) (a : Int) (h : lo.has a = true) : (dk lo c old).read a = (0, lo.bytes.drop (a - lo.base).toNat) := by
  unfold Dk.read
  rw [if_neg (by simp [dk]), if_neg (by show ¬ lo.has a = false; rw [h]; simp)]
  rfl
theorem dk_read_no (lo : Lo) (c : Int) (old : Pf) (a : Int) (h : lo.has a = false) : (dk lo c old).read a = (1, []) := by
  unfold Dk.read
  rw [if_neg (by simp [dk])]
  exact if_pos h
theorem lo_fin (lo : Lo) (h1 : 0 ≤ lo.base) (h2 : lo.base ≤ 4611686018427387904) (h3 : lo.bytes.length ≤ 16777216) : lo.fin = lo.base + lo.bytes.length := by
  unfold Lo.fin
  rw [IntKind.wrap_i64]
  omega
theorem lo_has (lo : Lo) (h1 : 0 ≤ lo.base) (h2 : lo.base ≤ 4611686018427387904) (h3 : lo.bytes.length ≤ 16777216) (a : Int) : lo.has a = (decide (lo.base ≤ a) && decide (a ≤ lo.base + lo.bytes.length)) := by
  unfold Lo.has
  rw [lo_fin lo h1 h2 h3]
theorem crash_sure (lo : Lo) (keep : Int) (torn : Bool) (h : lo.sure = lo.bytes.length) : lo.crash keep torn = lo := by
  have e : lo.stay keep = 0 := by unfold Lo.stay; omega
  have e2 : lo.left keep torn = lo.bytes := by
    unfold Lo.left
    rw [e, if_neg (by omega), Nat.add_zero, h, List.take_length]
  unfold Lo.crash
  rw [e2, ← h]

/-- Where the disk lies, of what the law itself has made. -/
structure Fin (w : World) (h : Wh) (w' : World) : Prop where
  b : Below w.heap.size w w'
  ge : ∀ k, h.has k → w.heap.size ≤ k
theorem Fin.step {w w1 w2 : World} {h : Wh} (f : Fin w h w1) (hC : Chg h.has w1 w2) : Fin w h w2 := ⟨f.b.trans (hC.below f.b.size f.ge), f.ge⟩
theorem Fin.later {w w1 w2 : World} {h : Wh} (f : Fin w h w1) (hb : Below w1.heap.size w1 w2) : Fin w h w2 := ⟨f.b.trans (hb.mono f.b.size), f.ge⟩
theorem Fin.mf {w w1 : World} {h : Wh} (f : Fin w h w1) {m : Nat} (hm : m = h.mf ∨ w.heap.size ≤ m) : Fin w { h with mf := m } w1 := ⟨f.b, fun k hk => by
  rcases hk with e | e | e | e | e | e | e
  · exact f.ge k (.inl e)
  · exact f.ge k (.inr (.inl e))
  · exact f.ge k (.inr (.inr (.inl e)))
  · exact f.ge k (.inr (.inr (.inr (.inl e))))
  · exact f.ge k (.inr (.inr (.inr (.inr (.inl e)))))
  · dsimp only at e
    rcases hm with q | q
    · exact f.ge k (.inr (.inr (.inr (.inr (.inr (.inl (by rw [e, q])))))))
    · omega
  · exact f.ge k (.inr (.inr (.inr (.inr (.inr (.inr e))))))⟩
theorem Fin.g {w w1 : World} {h : Wh} (f : Fin w h w1) {g : Option Nat} (hg : g = h.g ∨ ∃ b, g = some b ∧ w.heap.size ≤ b) : Fin w { h with g := g } w1 := ⟨f.b, fun k hk => by
  rcases hk with e | e | e | e | e | e | e
  · exact f.ge k (.inl e)
  · exact f.ge k (.inr (.inl e))
  · exact f.ge k (.inr (.inr (.inl e)))
  · exact f.ge k (.inr (.inr (.inr (.inl e))))
  · exact f.ge k (.inr (.inr (.inr (.inr (.inl e)))))
  · exact f.ge k (.inr (.inr (.inr (.inr (.inr (.inl e))))))
  · dsimp only at e
    rcases hg with q | ⟨b, q, q2⟩
    · exact f.ge k (.inr (.inr (.inr (.inr (.inr (.inr (by rw [e, q])))))))
    · rw [q] at e; cases e; exact q2⟩
theorem tmod_bd (x m : Int) (hm : 0 < m) : -m < x.tmod m ∧ x.tmod m < m := by
  rcases Int.le_total 0 x with h | h
  · rw [Int.tmod_eq_emod_of_nonneg h]
    have h1 := Int.emod_nonneg x (by omega : m ≠ 0)
    have h2 := Int.emod_lt_of_pos x hm
    omega
  · have e : x.tmod m = -((-x) % m) := by
      rw [show x = -(-x) by omega, Int.neg_tmod, Int.tmod_eq_emod_of_nonneg (by omega)]; simp
    rw [e]
    have h1 := Int.emod_nonneg (-x) (by omega : m ≠ 0)
    have h2 := Int.emod_lt_of_pos (-x) hm
    omega
theorem turn_ok (x : Int) (m : Nat) (hm : m ≤ 10000) : ∃ f : Nat, (x.tmod ((m : Int) + 1) + m + 1).tmod ((m : Int) + 1) = f ∧ f ≤ m := by
  obtain ⟨h1, h2⟩ := tmod_bd x ((m : Int) + 1) (by omega)
  rw [Int.tmod_eq_emod_of_nonneg (by omega)]
  have h3 := Int.emod_nonneg (x.tmod ((m : Int) + 1) + m + 1) (by omega : (m : Int) + 1 ≠ 0)
  have h4 := Int.emod_lt_of_pos (x.tmod ((m : Int) + 1) + m + 1) (by omega : (0 : Int) < (m : Int) + 1)
  exact ⟨((x.tmod ((m : Int) + 1) + m + 1) % ((m : Int) + 1)).toNat, by omega, by omega⟩
/-- a[f:t]. -/
theorem slice_mid {w : World} {ao : Option Addr} {n cap : Nat} {A Bs : List UInt8} (hr : Rd w ao n cap A) (f t : Nat) (hft : f ≤ t) (htn : t ≤ n) (hB : Bs = (A.drop f).take (t - f)) :
    ∃ vs : Value, (∃ x y z, vs = .slice x y z) ∧ (∀ W, (Instr.slice 32 (.slice ao n cap) (some (.int .i64 (f : Int))) (some (.int .i64 (t : Int))) none).run Try.prog W = .ok vs W) ∧ ∀ W, Rd W ao n cap A → (convert 32 9 vs).run Try.prog W = .ok (.string ⟨Bs.toArray⟩) W := by
  have hcap := hr.2.1
  have hal := hr.1
  have hBl : Bs.length = t - f := by rw [hB]; simp; omega
  have h1 : t ≤ cap := by omega
  obtain ⟨x, hx⟩ : ∃ x : Option Addr, x = match ao with | none => none | some a => if cap - f = 0 then some a else some (a.add f) := ⟨_, rfl⟩
  refine ⟨.slice x (t - f) (cap - f), ⟨_, _, _, rfl⟩, fun W => ?_, fun W hW => ?_⟩
  · cases ao with
    | none =>
      obtain ⟨rfl, rfl⟩ := hr.2.2.2.1 rfl
      obtain rfl : t = 0 := by omega
      obtain rfl : f = 0 := by omega
      subst hx
      simp [Instr.slice, Instr.sliceBounds, Instr.sliceBound, asIntOf, run_underlying Try.underlying32]
    | some a =>
      dsimp only at hx
      by_cases hc : cap - f = 0
      · rw [if_pos hc] at hx
        subst hx
        obtain rfl : t = f := by omega
        obtain rfl : cap = t := by omega
        simp [Instr.slice, Instr.sliceBounds, Instr.sliceBound, asIntOf, run_underlying Try.underlying32]
      · rw [if_neg hc] at hx
        subst hx
        have hcf : ¬ cap = f := by omega
        simp [Instr.slice, Instr.sliceBounds, Instr.sliceBound, asIntOf, run_underlying Try.underlying32, hft, h1, hcf]
  · have hR : Rd W x (t - f) (cap - f) Bs := by
      refine ⟨hBl, by omega, by have := hW.2.2.1; omega, fun e => ?_, fun hp => ?_⟩
      · cases ao with
        | none => obtain ⟨rfl, rfl⟩ := hr.2.2.2.1 rfl; omega
        | some a => dsimp only at hx; split at hx <;> rw [hx] at e <;> cases e
      · obtain ⟨b, off, rfl, hc⟩ := hW.2.2.2.2 (by omega)
        dsimp only at hx
        rw [if_neg (by omega), Addr.add_lit] at hx
        refine ⟨b, off + f, hx, fun i hi => ?_⟩
        have hi2 : f + i < A.length := by omega
        have := hc (f + i) hi2
        rw [show off + f + i = off + (f + i) by omega, this]
        congr 2
        subst hB
        simp
    exact run_string_of (P := Try.prog) 32 9 5 Try.underlying32 Try.underlying5 Try.underlying9 hR
end Go.Proofs.Ytecgjfghofpjcaa
