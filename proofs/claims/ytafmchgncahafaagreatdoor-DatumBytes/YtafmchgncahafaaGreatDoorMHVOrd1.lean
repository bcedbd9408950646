/-
  Lists of values that come in.
  A slice of bytes that came in, at a seat of values.
  datum.Same and datum.Row; the document's cmp, class, first and Row.
-/
import Derived.Test.YtafmchgncahafaaGreatDoorMFVRef
import Derived.Test.YtafmchgncahafaaGreatDoorVRows
import Derived.Test.YtafmchgncahafaaGreatDoorLaws
import Derived.OpenShut
import Derived.ShutString
namespace Go.Proofs.YtafmchgncahafaaGreatDoor
open Go.ChangeShapes Go.WideShapes Go.ChangeAt Go.WideMaps Go.WideElems Go.RowKit Go.Shelf Go.Lib

theorem bytes40 : Tryz.prog.bytesOf 47 = 40 := by kernel_rfl

theorem cells4 {W : World} {a : Addr} {c0 c1 c2 c3 : Value} (h : W.cells? 0 a 4 = some [c0, c1, c2, c3]) : W.cell? (a.add 0) = some c0 ∧ W.cell? (a.add 1) = some c1 ∧ W.cell? (a.add 2) = some c2 ∧ W.cell? (a.add 3) = some c3 := by
  unfold World.cells? at h
  rw [if_pos (Nat.zero_le _)] at h
  have e : List.range 4 = [0, 1, 2, 3] := rfl
  rw [e] at h
  simp only [List.mapM_cons, List.mapM_nil] at h
  cases h0 : W.cell? (a.add 0) with
  | none => simp [h0] at h
  | some v0 =>
    cases h1 : W.cell? (a.add 1) with
    | none => simp [h0, h1] at h
    | some v1 =>
      cases h2 : W.cell? (a.add 2) with
      | none => simp [h0, h1, h2] at h
      | some v2 =>
        cases h3 : W.cell? (a.add 3) with
        | none => simp [h0, h1, h2, h3] at h
        | some v3 =>
          simp [h0, h1, h2, h3] at h
          obtain ⟨rfl, rfl, rfl, rfl⟩ := h
          exact ⟨rfl, rfl, rfl, rfl⟩

set_option maxRecDepth 100000 in
theorem vals_open {H : Type} {enc : TypeId × Value → H} {W : World} {a : Option Addr} {len cap fuel : Nat} {cs : List Value} {x : DataW H × List MemPlace}
    (hf : DataW.trod enc Tryz.prog W 0 (fun _ => true) true fuel 22 cs = some x) (hcs : cs = [.slice a len cap]) :
    ∃ l : List Va, (Vs W a l ∧ (a = none → l = []) ∧ l.length = len ∧ len ≤ cap ∧ ∀ v ∈ l, vin v) ∧ (cap = 0 ∨ ∃ es sp, x.1 = .slice es sp ∧ es.length + sp.length = cap) := by
  subst hcs
  have hc4 : Tryz.prog.cellsOf 47 = 4 := by kernel_rfl
  rcases Go.Deep.open_slice Tryz.underlying22 hf with ⟨hcs, _⟩ | ⟨y, l, c, m, n, D, Pl, hcs, _, hl, hm, hmm, hx, hel⟩
  · simp at hcs
    obtain ⟨rfl, rfl, rfl⟩ := hcs
    exact ⟨[], ⟨fun h => by simp at h, fun _ => rfl, rfl, Nat.le_refl _, fun v h => by simp at h⟩, .inl rfl⟩
  · simp at hcs
    obtain ⟨rfl, rfl, rfl⟩ := hcs
    have hmc : m = cap := by simpa using hmm
    rw [hc4] at hel
    have ex : ∀ i, i < len → ∃ v : Va, W.cells? 0 (y.add (i * 4)) 4 = some [.int .i64 v.k, .int .i64 v.n, .int .i64 v.m, .string ⟨v.b.toArray⟩] ∧ vin v := by
      intro i hi
      obtain ⟨cs', h1, h2⟩ := hel i (by omega)
      obtain ⟨v, rfl, hv, _, _⟩ := val_cells h2
      exact ⟨v, h1, hv⟩
    let f : Nat → Va := fun i => if h : i < len then (ex i h).choose else ⟨0, 0, 0, []⟩
    have hf : ∀ i (h : i < len), W.cells? 0 (y.add (i * 4)) 4 = some [.int .i64 (f i).k, .int .i64 (f i).n, .int .i64 (f i).m, .string ⟨(f i).b.toArray⟩] ∧ vin (f i) := by
      intro i h
      have : f i = (ex i h).choose := dif_pos h
      rw [this]
      exact (ex i h).choose_spec
    refine ⟨(List.range len).map f, ⟨?_, (fun h => by cases h), by simp, by omega, ?_⟩, .inr ⟨_, _, by rw [hx], by simp; omega⟩⟩
    · intro hp
      simp only [List.length_map, List.length_range] at hp
      obtain ⟨b, off, spot⟩ := y
      have h0 := cells4 (hf 0 hp).1
      have hspot : spot = none := by simpa [Addr.add] using World.cell?_spot h0.1
      subst hspot
      refine ⟨b, off, rfl, fun i hi => ?_⟩
      simp only [List.length_map, List.length_range] at hi
      obtain ⟨g0, g1, g2, g3⟩ := cells4 (hf i hi).1
      simp only [Addr.add_lit] at g0 g1 g2 g3
      simp only [List.getElem_map, List.getElem_range]
      exact ⟨g0, g1, g2, g3⟩
    · intro v hv
      simp only [List.mem_map, List.mem_range] at hv
      obtain ⟨i, hi, rfl⟩ := hv
      exact (hf i hi).2
end Go.Proofs.YtafmchgncahafaaGreatDoor

namespace Go.Proofs.YtafmchgncahafaaGreatDoor
open Go.ChangeShapes Go.WideShapes Go.ChangeAt Go.WideMaps Go.WideElems Go.RowKit

/-- A slice of bytes that came in: what it reads as. -/
theorem rd_open {H : Type} {enc : TypeId × Value → H} {W : World} {a : Option Addr} {len cap fuel : Nat} {cs : List Value} {x : DataW H × List MemPlace}
    (hf : DataW.trod enc Tryz.prog W 0 (fun _ => true) true fuel 23 cs = some x) (hcs : cs = [.slice a len cap]) :
    ∃ bs, Rd W a len cap bs ∧ (cap = 0 ∨ ∃ es sp, x.1 = .slice es sp ∧ es.length + sp.length = cap) := by
  subst hcs
  rcases open_ints Tryz.underlying23 Tryz.underlying5 (by kernel_rfl) hf with ⟨hcs, _⟩ | ⟨y, l, c, zs, hcs, _, hl, hm, hz, hx, hcell, hwz⟩
  · simp at hcs
    obtain ⟨rfl, rfl, rfl⟩ := hcs
    exact ⟨[], Rd.nil W, .inl rfl⟩
  · simp at hcs
    obtain ⟨rfl, rfl, rfl⟩ := hcs
    have hzl : zs.length = cap := by simpa using hz
    refine ⟨(zs.take len).map fun n => UInt8.ofNat n.toNat, ⟨by simp; omega, hl, hm, (fun h => by cases h), fun hn => ?_⟩, .inr ⟨_, _, by rw [hx], by simp [lits]; omega⟩⟩
    obtain ⟨b, off, spot⟩ := y
    have h0 := hcell 0 (by omega)
    have hspot : spot = none := by simpa [Addr.add] using World.cell?_spot h0
    subst hspot
    refine ⟨b, off, rfl, fun i hi => ?_⟩
    have hi' : i < len := by simp at hi; omega
    have hci := hcell i (by omega)
    rw [Addr.add_lit] at hci
    rw [hci]
    have hw := hwz zs[i] (List.getElem_mem (by omega))
    have hbd := bounds_u8 hw
    have hget : zs.getD i 0 = zs[i] := by simp [List.getD, show i < zs.length by omega]
    rw [hget]
    simp only [List.getElem_map, List.getElem_take]
    rw [UInt8.toNat_ofNat']
    congr 2
    omega
theorem bytes1 : Tryz.prog.bytesOf 5 = 1 := by kernel_rfl
end Go.Proofs.YtafmchgncahafaaGreatDoor

namespace Go.Proofs.YtafmchgncahafaaGreatDoor
open Go.RowKit Go.Shelf
attribute [local go_sem] cell?_more frozen?_more setCell_more more_lt more_more more_drew more_drewN setCell_drewN alloc_drewN

theorem eqVs (k n m k' n' m' : Int) (b b' : ByteArray) (w : World) : (Op.equalIn 10000 47 (va k n m b) (va k' n' m' b')).run Tryz.prog w = .ok (sameV ⟨k, n, m, b.data.toList⟩ ⟨k', n', m', b'.data.toList⟩) w := eqVa k n m k' n' m' b b' w
attribute [local go_sem high] eqVs

/-- The class of a kind in the order. -/
def clsK (k : Int) : Int := if k = 1 ∨ k = 2 then 2 else if k = 3 then 3 else if k = 4 then 4 else if k = 5 then 5 else 1
theorem class_any (k : Int) (w : World) : Calls Tryz.prog 30 #[.int .i64 k] w fun e w' => e = .returned (.int .i64 (clsK k)) ∧ w = w' := by
  by_cases h1 : k = 1
  · subst h1
    rw [show clsK 1 = 2 by decide]
    go_enter Tryz.func30, Tryz.ntmps30
    go_wp2
    all_goals go_ret
    all_goals exact ⟨rfl, rfl⟩
  have c1 : (k == 1) = false := by simpa using h1
  by_cases h2 : k = 2
  · subst h2
    rw [show clsK 2 = 2 by decide]
    go_enter Tryz.func30, Tryz.ntmps30
    go_wp2
    all_goals go_ret
    all_goals exact ⟨rfl, rfl⟩
  have c2 : (k == 2) = false := by simpa using h2
  by_cases h3 : k = 3
  · subst h3
    rw [show clsK 3 = 3 by decide]
    go_enter Tryz.func30, Tryz.ntmps30
    go_wp2
    all_goals go_ret
    all_goals exact ⟨rfl, rfl⟩
  have c3 : (k == 3) = false := by simpa using h3
  by_cases h4 : k = 4
  · subst h4
    rw [show clsK 4 = 4 by decide]
    go_enter Tryz.func30, Tryz.ntmps30
    go_wp2
    all_goals go_ret
    all_goals exact ⟨rfl, rfl⟩
  have c4 : (k == 4) = false := by simpa using h4
  by_cases h5 : k = 5
  · subst h5
    rw [show clsK 5 = 5 by decide]
    go_enter Tryz.func30, Tryz.ntmps30
    go_wp2
    all_goals go_ret
    all_goals exact ⟨rfl, rfl⟩
  have c5 : (k == 5) = false := by simpa using h5
  rw [show clsK k = 1 by simp [clsK, h1, h2, h3, h4, h5]]
  go_enter Tryz.func30, Tryz.ntmps30
  go_wp2
  all_goals go_ret
  all_goals exact ⟨rfl, rfl⟩

theorem row_any (ao : Option Addr) (cap : Nat) (l : List Va) (w : World) (hT : Tabs w) (hv : Vs w ao l) (hl : l.length ≤ 9223372036854775807) :
    Calls Tryz.prog 25 #[.slice ao l.length cap] w fun e w' => e = .returned (.bool (ckE l == 0)) ∧ Below w.heap.size w w' := by
  have C := checked_any ao cap l w hT hv hl
  generalize ckE l = E at *
  generalize l.length = n at *
  go_enter Tryz.func25, Tryz.ntmps25
  go_wp2_with fail
  refine C.mono ?_
  rintro e w1 ⟨rfl, b1⟩
  go_wp2
  all_goals go_ret
  all_goals exact ⟨rfl, b1⟩

set_option maxHeartbeats 1000000 in
theorem rrow_any (ao : Option Addr) (cap : Nat) (l : List Va) (w : World) (hv : Vs w ao l) (hl : l.length ≤ 9223372036854775806) :
    Calls Tryz.prog 19 #[.slice ao l.length cap] w fun e w' => e = .returned (.bool (ckE l == 0)) ∧ Below w.heap.size w w' := by
  obtain ⟨R, hR⟩ : ∃ R, R = (ckE l == 0) := ⟨_, rfl⟩
  rw [← hR]
  have HR : Hid (R = (ckE l == 0)) := hR
  obtain ⟨n, hn⟩ : ∃ n, l.length = n := ⟨_, rfl⟩
  rw [hn] at hl ⊢
  have HN : Hid (l.length = n) := hn
  clear hn hR
  go_enter Tryz.func19, Tryz.ntmps19
  go_wp2
  go_loopw [3] (fun r wr => ∃ k : Nat, r = .int .i64 (k : Int) ∧ k ≤ n ∧ Below w.heap.size w wr ∧ Hid (∀ i (h : i < l.length), i < k → vr l[i] = true)) (fun r _ => n - (intOf r).toNat)
  case atStart => exact ⟨0, rfl, Nat.zero_le _, Below.refl _ _, fun i _ h => by omega⟩
  case round =>
    obtain ⟨k, rfl, hk, hB, hA⟩ := hrel
    have sB := hB.size
    by_cases hlt : k < n
    · have hlt' : (k : Int) < (n : Int) := by omega
      have k0 : (0 : Int) ≤ (k : Int) := by omega
      have hkl : k < l.length := by rw [HN.out]; exact hlt
      obtain ⟨b, off, rfl, hc⟩ := hv (by omega)
      obtain ⟨c0, c1, c2, c3⟩ := ((hc k hkl).later hB)
      have hg := (hc k hkl).lt
      have hg' : b < wr.heap.size := by omega
      have R1 : ∀ W, Calls Tryz.prog 43 #[vv l[k]] W fun e w' => e = .returned (.bool (vr l[k])) ∧ Below W.heap.size W w' := fun W => rright_any _ _ _ _ W
      obtain ⟨⟨vk, vn, vm, vb⟩, he⟩ : ∃ v : Va, v = l[k] := ⟨_, rfl⟩
      rw [← he] at c0 c1 c2 c3 R1
      have HV : Hid (Va.mk vk vn vm vb = l[k]) := he
      clear hc he
      cases hvr : vr ⟨vk, vn, vm, vb⟩
      · rw [hvr] at R1
        have HF : Hid (R = false) := by
          show R = false
          have hall : (l.all vr) = false := by
            rw [List.all_eq_false]
            exact ⟨l[k], List.getElem_mem _, by rw [← HV.out, hvr]; simp⟩
          rw [HR.out]
          unfold ckE
          rw [hall]
          by_cases h : 64 < l.length <;> simp [h]
        go_wp2_with (go_at_call 43; refine (R1 _).mono ?_; rintro e w2 ⟨rfl, hb2⟩)
        go_ret
        exact ⟨by rw [HF.out]; rfl, below_trans hB hb2⟩
      · rw [hvr] at R1
        go_wp2_with (go_at_call 43; refine (R1 _).mono ?_; rintro e w2 ⟨rfl, hb2⟩)
        go_roundw
        case rel =>
          refine ⟨k + 1, by go_num, by omega, below_trans hB hb2, fun i hi hik => ?_⟩
          by_cases h : i < k
          · exact hA.out i hi h
          · have : i = k := by omega
            subst this
            rw [← HV.out, hvr]
        case measure => simp [intOf]; omega
    · have hlt' : ¬ (k : Int) < (n : Int) := by omega
      have hall : (l.all vr) = true := by
        rw [List.all_eq_true]
        intro v hv'
        obtain ⟨i, hi, rfl⟩ := List.getElem_of_mem hv'
        exact hA.out i hi (by have := HN.out; omega)
      have hfin : R = decide ((n : Int) ≤ 64) := by
        rw [HR.out]
        have h1 := HN.out
        unfold ckE
        rw [hall]
        by_cases h : 64 < l.length
        · rw [if_pos h, decide_eq_false (by omega)]; rfl
        · rw [if_neg h, decide_eq_true (by omega)]; rfl
      have HF : Hid (R = decide ((n : Int) ≤ 64)) := hfin
      clear hall hfin
      go_wp2
      all_goals go_ret
      all_goals exact ⟨by rw [HF.out]; rfl, hB⟩
end Go.Proofs.YtafmchgncahafaaGreatDoor
