/-
  The walk of DatumBytes.
-/
import Derived.Test.YtafmchgncahafaaGreatDoorByK
import Derived.Test.YtafmchgncahafaaGreatDoorByG
import Derived.Test.YtafmchgncahafaaGreatDoorByH
import Derived.Test.YtafmchgncahafaaGreatDoorVRows
import Derived.Test.YtafmchgncahafaaGreatDoorMDVCmp
namespace Go.Proofs.YtafmchgncahafaaGreatDoor.By
open Go.RowKit Go.Shelf Go.Proofs.YtafmchgncahafaaGreatDoor.Co
attribute [local go_sem] cell?_more frozen?_more setCell_more more_lt more_more more_drew more_drewN setCell_drewN alloc_drewN

theorem lnumB_any (n : Int) (w : World) : Calls Tryz.prog 12 #[.int .i64 n] w fun e w' => e = .returned (.int .i64 n) ∧ w = w' := by
  go_enter Tryz.func12, Tryz.ntmps12
  go_wp2
  go_ret
  exact ⟨rfl, rfl⟩
theorem below_drewN {B : Nat} {a b : World} (h : Below B a b) (n : Nat) : Below B a (b.drewN n) := ⟨h.os, h.tape, h.output, h.size, h.block⟩
/-- A row's bytes, or none; its key, or none; the row that bytes are, or none. -/
def pB (l : List Va) : List UInt8 := if ckE l = 0 then numBytes (l.length : Int) ++ many vbytes l else []
def kB (l : List Va) : List UInt8 := if ckE l = 0 then rkey l else []
def gB (R : Option (List Va)) : List Va := R.getD []
def gE (R : Option (List Va)) : Int := if R.isSome then 0 else 21
def PutR (l : List Va) (e : Ending) (w' : World) : Prop := ∃ po pc, e = .returned (.tuple #[.slice po (pB l).length pc, .int .i64 (ckE l)]) ∧ Rd w' po (pB l).length pc (pB l)
theorem put_own {l : List Va} {w w' : World} {v : Value} (hC : ckE l = 0) (h : Own w' w.heap.size v (numBytes (l.length : Int) ++ many vbytes l)) : PutR l (.returned (.tuple #[v, .int .i64 0])) w' := by
  unfold PutR pB
  rw [if_pos hC, hC]
  obtain ⟨ao, cap, rfl, hr, _⟩ := h.rd
  exact ⟨ao, cap, rfl, hr⟩
theorem put_none {l : List Va} {w' : World} (hC : ckE l ≠ 0) : PutR l (.returned (.tuple #[.slice none 0 0, .int .i64 (ckE l)])) w' := by
  unfold PutR pB
  rw [if_neg hC]
  exact ⟨none, 0, rfl, Rd.nil _⟩
theorem put_both (ao : Option Addr) (cap : Nat) (l : List Va) (w : World) (hT : Tabs w) (hv : Vs w ao l) (hl : l.length ≤ 9223372036854775806) (hin : ∀ v ∈ l, vin v) :
    Calls Tryz.prog 6 #[.slice ao l.length cap] w fun e w' => PutR l e w' ∧ Below w.heap.size w w' := by
  by_cases hC : ckE l = 0
  · refine (put_good ao cap l w hT hv hC hin).mono ?_
    rintro e w' ⟨v, rfl, o, b⟩
    exact ⟨put_own hC o, b⟩
  · refine (put_bad ao cap l w hT hv (by omega) hC).mono ?_
    rintro e w' ⟨rfl, b⟩
    exact ⟨put_none hC, b⟩
theorem rput_both (ao : Option Addr) (cap : Nat) (l : List Va) (w : World) (hv : Vs w ao l) (hl : l.length ≤ 9223372036854775806) (hin : ∀ v ∈ l, vin v) :
    Calls Tryz.prog 7 #[.slice ao l.length cap] w fun e w' => PutR l e w' ∧ Below w.heap.size w w' := by
  by_cases hC : ckE l = 0
  · refine (rput_good ao cap l w hv hC hin).mono ?_
    rintro e w' ⟨v, rfl, o, b⟩
    exact ⟨put_own hC o, b⟩
  · refine (rput_bad ao cap l w hv hl hC).mono ?_
    rintro e w' ⟨rfl, b⟩
    exact ⟨put_none hC, b⟩
theorem key_both (ao : Option Addr) (cap : Nat) (l : List Va) (w : World) (hT : Tabs w) (hv : Vs w ao l) (hl : l.length ≤ 9223372036854775806) (hin : ∀ v ∈ l, vin v) :
    Calls Tryz.prog 10 #[.slice ao l.length cap] w fun e w' => e = .returned (.tuple #[.string ⟨(kB l).toArray⟩, .int .i64 (ckE l)]) ∧ Below w.heap.size w w' := by
  unfold kB
  by_cases hC : ckE l = 0
  · rw [if_pos hC, hC]
    exact key_good ao cap l w hT hv hC hin
  · rw [if_neg hC]
    exact key_bad ao cap l w hT hv (by omega) hC
theorem rkey_both (ao : Option Addr) (cap : Nat) (l : List Va) (w : World) (hv : Vs w ao l) (hl : l.length ≤ 9223372036854775806) (hin : ∀ v ∈ l, vin v) :
    Calls Tryz.prog 11 #[.slice ao l.length cap] w fun e w' => e = .returned (.tuple #[.string ⟨(kB l).toArray⟩, .int .i64 (ckE l)]) ∧ Below w.heap.size w w' := by
  unfold kB
  by_cases hC : ckE l = 0
  · rw [if_pos hC, hC]
    exact rkey_good ao cap l w hv hC hin
  · rw [if_neg hC]
    exact rkey_bad ao cap l w hv hl hC
def GetR (R : Option (List Va)) (e : Ending) (w' : World) : Prop := ∃ ao cap, e = .returned (.tuple #[.slice ao (gB R).length cap, .int .i64 (gE R)]) ∧ Vs w' ao (gB R)
theorem vs_nil (w : World) (ao : Option Addr) : Vs w ao [] := fun h => by simp at h
theorem get_both (ao : Option Addr) (cap : Nat) (bs : List UInt8) (w : World) (hT : Tabs w) (hR : Rd w ao bs.length cap bs) (hlen : bs.length ≤ 140737488351232) :
    Calls Tryz.prog 8 #[.slice ao bs.length cap] w fun e w' => GetR (gget bs) e w' ∧ Below w.heap.size w w' := by
  refine (get_all ao cap bs w hT hR hlen).mono ?_
  rintro e w' ⟨h, b⟩
  refine ⟨?_, b⟩
  unfold getP at h
  cases hg : gget bs with
  | none => rw [hg] at h; subst h; exact ⟨none, 0, rfl, vs_nil _ _⟩
  | some l => rw [hg] at h; obtain ⟨g, rfl, hv⟩ := h; exact ⟨_, _, rfl, hv⟩
theorem rget_both (ao : Option Addr) (cap : Nat) (bs : List UInt8) (w : World) (hR : Rd w ao bs.length cap bs) (hlen : bs.length ≤ 140737488351232) :
    Calls Tryz.prog 9 #[.slice ao bs.length cap] w fun e w' => GetR (gget bs) e w' ∧ Below w.heap.size w w' := by
  refine (rget_any ao cap bs w hR hlen).mono ?_
  rintro e w' ⟨h, b⟩
  refine ⟨?_, b⟩
  rw [get_same] at h
  unfold getR at h
  cases hg : gget bs with
  | none => rw [hg] at h; subst h; exact ⟨none, 0, rfl, vs_nil _ _⟩
  | some l => rw [hg] at h; obtain ⟨g, c, rfl, hv⟩ := h; exact ⟨_, _, rfl, hv⟩
theorem gget_len (bs : List UInt8) : (gB (gget bs)).length ≤ 64 := by
  unfold gB
  cases hg : gget bs with
  | none => simp
  | some l =>
    show l.length ≤ 64
    unfold gget at hg
    rcases h0 : rNum bs 0 0 with ⟨n, k1, e1⟩
    rw [h0] at hg
    dsimp only at hg
    split at hg
    · cases hg
    · split at hg
      · rename_i h
        obtain rfl := Option.some.inj hg
        exact ck_len h.2
      · cases hg

set_option maxRecDepth 20000 in
set_option maxHeartbeats 4000000 in
theorem bytes_all (ao : Option Addr) (cap : Nat) (l : List Va) (bo : Option Addr) (bc : Nat) (bs : List UInt8) (w : World) (hv : Vs w ao l) (h0 : ao = none → l = []) (hl : l.length * 40 ≤ 140737488351232) (hin : ∀ v ∈ l, vin v) (hR : Rd w bo bs.length bc bs) (hbl : bs.length ≤ 140737488351232) (hT : Tabs w) :
    Calls Tryz.prog 3 #[.slice ao l.length cap, .slice bo bs.length bc] w fun e w' => e = .returned (.bool true) ∧ Below w.heap.size w w' := by
  have NU := lnumB_any
  have hll : l.length ≤ 9223372036854775806 := by omega
  have hgl := gget_len bs
  have KN : ∀ W, Below w.heap.size w W → _ := fun W h => knows_any W (hT.later h)
  have LEN := lent_any bo bs.length bc bs w hR hbl
  have OWN : ∀ W, Below w.heap.size w W → _ := fun W h => vown_any ao cap l W (hv.later h) h0 hl
  have PUT : ∀ ao' cap' W, Below w.heap.size w W → Vs W ao' l → _ := fun ao' cap' W h hV => put_both ao' cap' l W (hT.later h) hV hll hin
  have RPUT : ∀ W, Below w.heap.size w W → _ := fun W h => rput_both ao cap l W (hv.later h) hll hin
  have GET : ∀ g c W, Below w.heap.size w W → Marked W g c bs → _ := fun g c W h hM => get_both (some ⟨g, 0, none⟩) c bs W (hT.later h) hM.rd hbl
  have RGET : ∀ W, Below w.heap.size w W → _ := fun W h => rget_both bo bc bs W (hR.later h) hbl
  have KEY : ∀ ao' cap' W, Below w.heap.size w W → Vs W ao' l → _ := fun ao' cap' W h hV => key_both ao' cap' l W (hT.later h) hV hll hin
  have RKEY : ∀ W, Below w.heap.size w W → _ := fun W h => rkey_both ao cap l W (hv.later h) hll hin
  have SAM : ∀ ao' bo' c d (x : List Va) W, x.length ≤ 9223372036854775806 → Vs W ao' x → Vs W bo' x → Calls Tryz.prog 13 #[.slice ao' x.length c, .slice bo' x.length d] W fun e w' => e = .returned (.bool true) ∧ Below W.heap.size W w' := fun ao' bo' c d x W hx h1 h2 => by
    have := vsame_any ao' bo' c d x x W h1 h2 hx hx
    rwa [decide_eq_true rfl] at this
  have STA : ∀ g c W, Below w.heap.size w W → Marked W g c bs → _ := fun g c W h hM => stays_any g c bs.length bo bc bs W hM (hR.later h)
  have HV : Hid (∀ W, Below w.heap.size w W → Vs W ao l) := fun W h => hv.later h
  unfold PutR at PUT RPUT
  unfold GetR at GET RGET
  clear hv h0 hl hin hR hT
  generalize pB l = PB at *
  generalize kB l = KB at *
  generalize ckE l = E at *
  generalize gE (gget bs) = G at *
  generalize gB (gget bs) = Y at *
  generalize hln : l.length = n at *
  generalize hbn : bs.length = m at *
  go_enter Tryz.func3, Tryz.ntmps3
  go_wp2_with fail
  refine LEN.mono ?_
  rintro e w1 ⟨g, c, rfl, hg, M1, B1⟩
  go_wp2_with fail
  refine (OWN _ B1).mono ?_
  rintro e w2 ⟨xo, xc, rfl, X2, b2⟩
  have B2 := below_trans B1 b2
  go_wp2_with fail
  refine (PUT _ _ _ B2 X2).mono ?_
  rintro e w3 ⟨⟨po, pc, rfl, P3⟩, b3⟩
  have B3 := below_trans B2 b3
  go_wp2_with fail
  refine (RPUT _ B3).mono ?_
  rintro e w4 ⟨⟨qo, qc, rfl, Q4⟩, b4⟩
  have B4 := below_trans B3 b4
  have M4 := ((M1.later b2).later b3).later b4
  go_wp2_with fail
  refine (GET _ _ _ B4 M4).mono ?_
  rintro e w5 ⟨⟨yo, yc, rfl, Y5⟩, b5⟩
  have B5 := below_trans B4 b5
  go_wp2_with fail
  refine (RGET _ B5).mono ?_
  rintro e w6 ⟨⟨zo, zc, rfl, Z6⟩, b6⟩
  have B6 := below_trans B5 b6
  have X6 := (((X2.later b3).later b4).later b5).later b6
  go_wp2_with fail
  refine (KEY _ _ _ B6 X6).mono ?_
  rintro e w7 ⟨rfl, b7⟩
  have B7 := below_trans B6 b7
  go_wp2_with fail
  refine (RKEY _ B7).mono ?_
  rintro e w8 ⟨rfl, b8⟩
  have B8 := below_trans B7 b8
  have b48 := below_trans (below_trans (below_trans b5 b6) b7) b8
  have P8 := (P3.later b4).later b48
  have Q8 := Q4.later b48
  have M8 := M4.later b48
  have X8 := (X6.later b7).later b8
  have Y8 := ((Y5.later b6).later b7).later b8
  have Z8 := (Z6.later b7).later b8
  have L8 := HV.out _ B8
  have hcp := run_string_of 23 9 5 Tryz.underlying23 Tryz.underlying5 Tryz.underlying9 P8
  have hcq := run_string_of 23 9 5 Tryz.underlying23 Tryz.underlying5 Tryz.underlying9 Q8
  clear LEN OWN PUT RPUT GET RGET KEY RKEY M1 M4 X2 X6 P3 Q4 Y5 Z6 P8 Q8
  generalize (ByteArray.mk PB.toArray) = PBA at *
  generalize (ByteArray.mk KB.toArray) = KBA at *
  go_wp2_with fail
  refine (NU _ _).mono ?_
  rintro e w9 ⟨rfl, rfl⟩
  go_wp2_with fail
  refine (SAM _ _ _ _ Y _ (by omega) Y8 Z8).mono ?_
  rintro e w9 ⟨rfl, b9⟩
  have B9 := below_trans B8 b9
  go_wp2_with fail
  refine (NU _ _).mono ?_
  rintro e w10 ⟨rfl, rfl⟩
  go_wp2_with fail
  refine (NU _ _).mono ?_
  rintro e w11 ⟨rfl, rfl⟩
  go_wp2_with fail
  have S11 := SAM xo ao xc cap l _ (by omega) (X8.later b9) (L8.later b9)
  rw [hln] at S11
  refine S11.mono ?_
  rintro e w12 ⟨rfl, b12⟩
  have B12 := below_trans B9 b12
  go_wp2_with fail
  refine (STA _ _ _ B12 ((M8.later b9).later b12)).mono ?_
  rintro e w13 ⟨rfl, nq, rfl⟩
  go_wp2_with fail
  refine (KN _ (below_drewN B12 _)).mono ?_
  rintro e w14 ⟨rfl, b14⟩
  have B14 := below_trans (below_drewN B12 _) b14
  go_wp2
  go_ret
  exact ⟨rfl, B14⟩
end Go.Proofs.YtafmchgncahafaaGreatDoor.By
