/-
  The document's Key of a row.
-/
import Derived.Test.YtafmchgncahafaaGreatDoorByP
import Derived.Test.YtafmchgncahafaaGreatDoorVRKey
import Derived.Test.YtafmchgncahafaaGreatDoorVRWide
import Derived.Test.YtafmchgncahafaaGreatDoorVKeyB
import Derived.Test.YtafmchgncahafaaGreatDoorDPower
import Derived.Deep.RegionHeld3
import Derived.Deep.AppendLies
namespace Go.Proofs.YtafmchgncahafaaGreatDoor.By
open Go.RowKit
attribute [local go_sem] cell?_more frozen?_more setCell_more more_lt more_more more_drew more_drewN setCell_drewN alloc_drewN

/-- A row of values lies in a block. -/
def Lie (w : World) (g : Nat) (l : List Value) : Prop := g < w.heap.size ∧ ∀ j u, l[j]? = some u → w.cell? ((⟨g, 0, none⟩ : Addr).add j) = some u
theorem add_block (g j : Nat) : ((⟨g, 0, none⟩ : Addr).add j).block = g := by unfold Addr.add; split <;> simp_all
theorem Lie.later {w w' : World} {g : Nat} {l : List Value} (h : Lie w g l) (hb : Below w.heap.size w w') : Lie w' g l :=
  ⟨Nat.lt_of_lt_of_le h.1 hb.size, fun j u hu => by rw [World.cell?_of_block (w := w) (by rw [add_block]; exact hb.block g h.1)]; exact h.2 j u hu⟩
theorem Lie.grown {w w' : World} {g : Nat} {l : List Value} {row : Option Nat} (h : Lie w g l) (hg : w.grownBy w' row) (hne : some g ≠ row) : Lie w' g l :=
  ⟨Nat.lt_of_lt_of_le h.1 hg.size, fun j u hu => by rw [hg.cell_far _ (by rw [add_block]; exact h.1) (by rw [add_block]; exact hne)]; exact h.2 j u hu⟩
theorem Lie.new (w : World) (cs : Array Value) (t : TypeId) : Lie (w.alloc (.cells cs t)) w.heap.size cs.toList :=
  ⟨by simp, World.news_of_block (t := t) (fr := (0, 0)) (by show (w.heap.push _)[w.heap.size]? = _; simp)⟩
theorem Lie.own {w : World} {base : Nat} {y : Value} {bs : List UInt8} (h : Own w base y bs) (hp : 0 < bs.length) : ∃ g c, y = .slice (some ⟨g, 0, none⟩) bs.length c ∧ Lie w g (bv bs) := by
  obtain ⟨g, c, rfl, hs⟩ := own_src h hp
  exact ⟨g, c, rfl, (World.ownsRow.lt h g rfl).2, hs⟩
theorem own_end {w : World} {base n : Nat} {v : Value} {a b : List UInt8} {k m : Int} {x y : UInt8} (hk : k = (x.toNat : Int) ∧ m = (y.toNat : Int)) (h : w.ownsRow base 5 1 v n (bv a ++ bv b ++ [.int .u8 k, .int .u8 m])) : Own w base v (a ++ (b ++ [x, y])) := by
  obtain ⟨rfl, rfl⟩ := hk
  rw [← bv_append] at h
  have := own_two h
  simpa using this

def rkO0 : Oper := { dst := some 36, op := Op.move (Operand.tmp 4), type := 23, pos := "ref.go:249", after := #[], guard := none }
def rkO1 : Oper := { dst := some 37, op := Op.fieldAddr 47 (Operand.tmp 6) 1, type := 0, pos := "ref.go:249", after := #[], guard := none }
def rkO2 : Oper := { dst := some 38, op := Op.load 3 (Operand.tmp 37), type := 3, pos := "ref.go:249", after := #[{ on := 1, ground := Ground.data }], guard := none }
def rkO3 : Oper := { dst := some 39, op := Op.fieldAddr 47 (Operand.tmp 6) 2, type := 0, pos := "ref.go:249", after := #[], guard := none }
def rkO4 : Oper := { dst := some 40, op := Op.load 3 (Operand.tmp 39), type := 3, pos := "ref.go:249", after := #[{ on := 3, ground := Ground.data }], guard := none }
def rkO5 : Oper := { dst := some 41, op := Op.binOp BinOp.sub 3 (Operand.const (Value.int IntKind.i64 6)) (Operand.tmp 40) 3, type := 3, pos := "ref.go:249", after := #[{ on := 4, ground := Ground.data }], guard := none }
def rkO6 : Oper := { dst := some 42, op := Op.call { callee := Callee.value (Operand.func 32), args := #[Operand.tmp 41], argTypes := #[3] }, type := 3, pos := "ref.go:249", after := #[{ on := 5, ground := Ground.data }], guard := none }
def rkO7 : Oper := { dst := some 43, op := Op.call { callee := Callee.value (Operand.func 31), args := #[Operand.tmp 38, Operand.tmp 42], argTypes := #[3, 3] }, type := 23, pos := "ref.go:249", after := #[{ on := 2, ground := Ground.data }, { on := 6, ground := Ground.data }, { on := 6, ground := Ground.chain }], guard := none }
def rkO8 : Oper := { dst := some 44, op := Op.call { callee := Callee.builtin Builtin.append, args := #[Operand.tmp 36, Operand.tmp 43], argTypes := #[23, 23] }, type := 23, pos := "ref.go:249", after := #[{ on := 0, ground := Ground.data }, { on := 7, ground := Ground.data }, { on := 7, ground := Ground.chain }], guard := none }
def rkO9 : Oper := { dst := some 45, op := Op.fieldAddr 47 (Operand.tmp 6) 0, type := 0, pos := "ref.go:249", after := #[], guard := none }
def rkO10 : Oper := { dst := some 46, op := Op.load 3 (Operand.tmp 45), type := 3, pos := "ref.go:249", after := #[{ on := 9, ground := Ground.data }], guard := none }
def rkO11 : Oper := { dst := some 47, op := Op.convert 3 5 (Operand.tmp 46), type := 5, pos := "ref.go:249", after := #[{ on := 10, ground := Ground.data }], guard := none }
def rkO12 : Oper := { dst := some 48, op := Op.fieldAddr 47 (Operand.tmp 6) 2, type := 0, pos := "ref.go:249", after := #[], guard := none }
def rkO13 : Oper := { dst := some 49, op := Op.load 3 (Operand.tmp 48), type := 3, pos := "ref.go:249", after := #[{ on := 12, ground := Ground.data }], guard := none }
def rkO14 : Oper := { dst := some 50, op := Op.convert 3 5 (Operand.tmp 49), type := 5, pos := "ref.go:249", after := #[{ on := 13, ground := Ground.data }], guard := none }
def rkO15 : Oper := { dst := some 51, op := Op.buildSlice 23 2 #[(0, Operand.tmp 47), (1, Operand.tmp 50)], type := 23, pos := "ref.go:249", after := #[{ on := 11, ground := Ground.data }, { on := 14, ground := Ground.data }], guard := none }
def rkO16 : Oper := { dst := some 52, op := Op.call { callee := Callee.builtin Builtin.append, args := #[Operand.tmp 44, Operand.tmp 51], argTypes := #[23, 23] }, type := 23, pos := "ref.go:249", after := #[{ on := 8, ground := Ground.data }, { on := 15, ground := Ground.data }, { on := 8, ground := Ground.chain }], guard := none }
def rkO17 : Oper := { dst := some 4, op := Op.assign (Operand.tmp 52), type := 23, pos := "ref.go:249", after := #[{ on := 16, ground := Ground.data }, { on := 16, ground := Ground.chain }, { on := 0, ground := Ground.phase }, { on := 1, ground := Ground.phase }, { on := 2, ground := Ground.phase }, { on := 3, ground := Ground.phase }, { on := 4, ground := Ground.phase }, { on := 5, ground := Ground.phase }, { on := 6, ground := Ground.phase }, { on := 7, ground := Ground.phase }, { on := 8, ground := Ground.phase }, { on := 9, ground := Ground.phase }, { on := 10, ground := Ground.phase }, { on := 11, ground := Ground.phase }, { on := 12, ground := Ground.phase }, { on := 13, ground := Ground.phase }, { on := 14, ground := Ground.phase }, { on := 15, ground := Ground.phase }, { on := 16, ground := Ground.phase }], guard := none }

set_option maxRecDepth 20000 in
set_option maxHeartbeats 8000000 in
theorem rkey_good (ao : Option Addr) (cap : Nat) (l : List Va) (w : World) (hv : Vs w ao l) (hE : ckE l = 0) (hin : ∀ v ∈ l, vin v) :
    Calls Tryz.prog 11 #[.slice ao l.length cap] w fun e w' => e = .returned (.tuple #[.string ⟨(rkey l).toArray⟩, .int .i64 0]) ∧ Below w.heap.size w w' := by
  have hlen := ck_len hE
  have hall := ck_all hE
  have RW := rrow_any ao cap l w hv (by omega)
  have hc : (ckE l == 0) = true := by simpa using hE
  rw [hc] at RW
  obtain ⟨i0, hi, hz0, hz1, hz2⟩ := info_parts Tryz.info5
  obtain ⟨n, hn⟩ : ∃ n, l.length = n := ⟨_, rfl⟩
  rw [hn] at hlen RW ⊢
  have hb : ¬ (64 : Int) < (n : Int) := by omega
  have HN : Hid (l.length = n) := hn
  have ML : ∀ k, k ≤ n → (many vkey (l.take k)).length ≤ 520 * 64 := by
    intro k hk
    have h1 := many_len vkey 520 (l.take k) (fun v hv => vkey_len v (hall v (List.mem_of_mem_take hv)))
    have h2 : (l.take k).length = k := by simp; omega
    rw [h2] at h1
    have h3 : 520 * k ≤ 520 * 64 := Nat.mul_le_mul_left _ (by omega)
    omega
  have HM : Hid (∀ k, k ≤ n → (many vkey (l.take k)).length ≤ 520 * 64) := ML
  clear hn hE ML hc
  go_enter Tryz.func11, Tryz.ntmps11
  go_wp2_with fail
  refine RW.mono ?_
  rintro e w1 ⟨rfl, b1⟩
  have s1 := b1.size
  go_wp2
  go_loopw [4, 5] (fun x r wr => ∃ k : Nat, r = .int .i64 (k : Int) ∧ k ≤ n ∧ Own wr w.heap.size x (many vkey (l.take k)) ∧ Below w.heap.size w wr) (fun _ r _ => n - (intOf r).toNat)
  case atStart => exact ⟨0, rfl, Nat.zero_le _, World.ownsRow_nil _ _ _ _, b1⟩
  case round =>
    obtain ⟨k, rfl, hk, ho, hB⟩ := hrel
    have sB := hB.size
    by_cases hlt : k < n
    · have hlt' : (k : Int) < (n : Int) := by omega
      have k0 : (0 : Int) ≤ (k : Int) := by omega
      have hkl : k < l.length := by rw [HN.out]; exact hlt
      obtain ⟨b, off, rfl, hc⟩ := hv (by omega)
      obtain ⟨c0, c1, c2, c3⟩ := ((hc k hkl).later hB)
      have hML := HM.out k (by omega)
      have hmt := many_take vkey l k hkl
      have hvk := hall _ (List.getElem_mem hkl)
      have hik := hin _ (List.getElem_mem hkl)
      obtain ⟨v, he⟩ : ∃ v : Va, v = l[k] := ⟨_, rfl⟩
      rw [← he] at c0 c1 c2 c3 hmt hvk hik
      obtain ⟨D, hD⟩ : ∃ D, D = many vkey (l.take k) := ⟨_, rfl⟩
      have hDl : D.length ≤ 40000 := by rw [hD]; omega
      have HD : Hid (many vkey (l.take (k + 1)) = D ++ vkey v) := by
        show _ = _
        rw [hD, hmt]
      rw [← hD] at ho
      have hok := (vr_iff v).1 hvk
      obtain ⟨vk, vn, vm, vb⟩ := v
      simp only [vok, vin] at hok hik
      simp only at c0 c1 c2 c3
      clear hc he hmt hD hML hvk
      rcases hok with ⟨rfl, rfl, rfl, rfl⟩ | ⟨rfl, rfl, rfl⟩ | ⟨rfl, g0, g1, rfl⟩ | ⟨rfl, rfl, rfl, gl, _⟩ | ⟨rfl, g0, rfl, rfl⟩ | ⟨rfl, g0, g1, g2, g3, rfl⟩
      · have boxA := Box.new wr 0 0 0 []
        have ownA : Own (wr.alloc (.cells #[.int .i64 0, .int .i64 0, .int .i64 0, .string ⟨#[]⟩] 47)) w.heap.size u4 D := World.ownsRow.alloc ho _
        have belA : Below w.heap.size w (wr.alloc (.cells #[.int .i64 0, .int .i64 0, .int .i64 0, .string ⟨#[]⟩] 47)) := hB.alloc (by omega) _
        have szA := belA.size
        have CL := fun W => class_any 0 W
        rw [show clsK 0 = 1 by decide] at CL
        go_upto_region 10 with fail
        generalize hWA : wr.alloc (.cells #[.int .i64 0, .int .i64 0, .int .i64 0, .string ⟨#[]⟩] 47) = wA at *
        clear hWA c0 c1 c2 c3
        obtain ⟨c0, c1, c2, c3⟩ := boxA.at4
        simp only at c0 c1 c2 c3
        go_wp2_with fail
        refine (CL _).mono ?_
        rintro e wq ⟨rfl, rfl⟩
        clear CL
        go_wp2_with (at_builtin; refine wpList_append_own _ rfl _ _ 23 rfl w.heap.size 5 i0 (.int .u8 0) 1 1 Tryz.underlying23 hi hz0 hz1 hz2 rfl (by decide) _ _ _ rfl (World.ownsRow.alloc ownA _) ⟨wA.heap.size, 0, none⟩ 1 1 [.int .u8 1] rfl rfl (cell_one_new _ _ _) (one_cell _ _) (by unfold maxLen; omega) (by omega) (by simp; omega) ?_)
        intro v1 w1 hown1 hgrow1 _
        have box1 := (Box.later boxA ((Below.refl _ _).alloc (Nat.le_refl _) _)).kept (World.ownsRow.alloc ownA _) hgrow1
        have bel1 : Below w.heap.size w w1 := ((belA.alloc (by omega) _).grown hgrow1 (by simp; omega) (fun k hk => (World.ownsRow.lt ownA k hk).1))
        have ho1 := own_push (b := 1) hown1
        have sz1 := bel1.size
        obtain ⟨D1, hD1⟩ : ∃ D1, D1 = D ++ [1] := ⟨_, rfl⟩
        have HD1 : Hid (D1 = D ++ [1]) := hD1
        have hl1 : D1.length ≤ 40001 := by rw [hD1]; simp; omega
        rw [← hD1] at ho1
        clear hD1
        clear hown1 hgrow1 c0 c1 c2 c3 ownA belA boxA
        obtain ⟨c0, c1, c2, c3⟩ := box1.at4
        simp only at c0 c1 c2 c3
        go_wp2
        go_roundw
        case rel => exact ⟨k + 1, by go_num, by omega, by rw [HD.out]; have := HD1.out; subst this; simpa [vkey] using ho1, bel1⟩
        case measure => simp [intOf]; omega
      · have boxA := Box.new wr 1 vn 0 []
        have ownA : Own (wr.alloc (.cells #[.int .i64 1, .int .i64 vn, .int .i64 0, .string ⟨#[]⟩] 47)) w.heap.size u4 D := World.ownsRow.alloc ho _
        have belA : Below w.heap.size w (wr.alloc (.cells #[.int .i64 1, .int .i64 vn, .int .i64 0, .string ⟨#[]⟩] 47)) := hB.alloc (by omega) _
        have szA := belA.size
        have CL := fun W => class_any 1 W
        rw [show clsK 1 = 2 by decide] at CL
        go_upto_region 10 with fail
        generalize hWA : wr.alloc (.cells #[.int .i64 1, .int .i64 vn, .int .i64 0, .string ⟨#[]⟩] 47) = wA at *
        clear hWA c0 c1 c2 c3
        obtain ⟨c0, c1, c2, c3⟩ := boxA.at4
        simp only at c0 c1 c2 c3
        go_wp2_with fail
        refine (CL _).mono ?_
        rintro e wq ⟨rfl, rfl⟩
        clear CL
        go_wp2_with (at_builtin; refine wpList_append_own _ rfl _ _ 23 rfl w.heap.size 5 i0 (.int .u8 0) 1 1 Tryz.underlying23 hi hz0 hz1 hz2 rfl (by decide) _ _ _ rfl (World.ownsRow.alloc ownA _) ⟨wA.heap.size, 0, none⟩ 1 1 [.int .u8 2] rfl rfl (cell_one_new _ _ _) (one_cell _ _) (by unfold maxLen; omega) (by omega) (by simp; omega) ?_)
        intro v1 w1 hown1 hgrow1 _
        have box1 := (Box.later boxA ((Below.refl _ _).alloc (Nat.le_refl _) _)).kept (World.ownsRow.alloc ownA _) hgrow1
        have bel1 : Below w.heap.size w w1 := ((belA.alloc (by omega) _).grown hgrow1 (by simp; omega) (fun k hk => (World.ownsRow.lt ownA k hk).1))
        have ho1 := own_push (b := 2) hown1
        have sz1 := bel1.size
        obtain ⟨D1, hD1⟩ : ∃ D1, D1 = D ++ [2] := ⟨_, rfl⟩
        have HD1 : Hid (D1 = D ++ [2]) := hD1
        have hl1 : D1.length ≤ 40001 := by rw [hD1]; simp; omega
        rw [← hD1] at ho1
        clear hD1
        clear hown1 hgrow1 c0 c1 c2 c3 ownA belA boxA
        obtain ⟨c0, c1, c2, c3⟩ := box1.at4
        simp only at c0 c1 c2 c3
        have PW : ∀ W, Calls Tryz.prog 32 #[.int .i64 6] W fun e w' => e = .returned (.int .i64 1000000) ∧ W = w' := fun W => by have := power_any 6 W (by decide); simpa using this
        have WD : ∀ W, Calls Tryz.prog 31 #[.int .i64 vn, .int .i64 1000000] W fun e w' => ∃ v', e = .returned v' ∧ Own w' W.heap.size v' (bigE 16 (vn * ((1000000 : Nat) : Int) + 2 ^ 127).toNat) ∧ Below W.heap.size W w' := fun W => wide_any vn 1000000 W hik.1.1 hik.1.2 (by decide) (by decide)
        have HV : Hid (D ++ vkey ⟨1, vn, 0, []⟩ = D ++ [2] ++ (bigE 16 (vn * ((1000000 : Nat) : Int) + 2 ^ 127).toNat ++ [1, 0])) := by show _ = _; simp [vkey, at6]
        have HKM : Hid ((IntKind.u8.wrap 1 = (((1 : UInt8).toNat : Nat) : Int)) ∧ (IntKind.u8.wrap 0 = (((0 : UInt8).toNat : Nat) : Int))) := ⟨by decide, by decide⟩
        have nl : 0 < (bigE 16 (vn * ((1000000 : Nat) : Int) + 2 ^ 127).toNat).length := by rw [bigE_len]; omega
        have nl' : (bigE 16 (vn * ((1000000 : Nat) : Int) + 2 ^ 127).toNat).length ≤ 20 := by rw [bigE_len]; omega
        generalize bigE 16 (vn * ((1000000 : Nat) : Int) + 2 ^ 127).toNat = N1 at *
        have KB : Hid (∀ W, Box W wr.heap.size ⟨1, vn, 0, []⟩ → W.cell? ⟨wr.heap.size, 0, none⟩ = some (.int .i64 1) ∧ W.cell? ⟨wr.heap.size, 1, none⟩ = some (.int .i64 vn) ∧ W.cell? ⟨wr.heap.size, 2, none⟩ = some (.int .i64 0)) := fun W h => by obtain ⟨x0, x1, x2, _⟩ := h.at4; simp only [Nat.zero_add] at x0 x1 x2; exact ⟨x0, x1, x2⟩
        have KP : Hid (∀ W, Below w1.heap.size w1 W → W.cell? ⟨wr.heap.size, 0, none⟩ = some (.int .i64 1) ∧ W.cell? ⟨wr.heap.size, 1, none⟩ = some (.int .i64 vn) ∧ W.cell? ⟨wr.heap.size, 2, none⟩ = some (.int .i64 0)) := fun W h => KB.out W (box1.later h)
        go_upto_region 14 with fail
        refine wp_region_held_drew (S := (fun W => W.cell? ⟨wr.heap.size, 0, none⟩ = some (.int .i64 1) ∧ W.cell? ⟨wr.heap.size, 1, none⟩ = some (.int .i64 vn) ∧ W.cell? ⟨wr.heap.size, 2, none⟩ = some (.int .i64 0))) (by kernel_rfl) ?_ (fun hHeld => ?_)
        · ((try dsimp only); exact KP.out _ ((Below.refl _ w1).drew))
        refine wpAnyH_take (i := 0) (oi := rkO0) (v := ?_) rfl (by kernel_rfl) (by kernel_rfl) (by kernel_rfl) (fun _ _ _ h => h) (Or.inl ⟨by rfl, ?_⟩) (by assumption) ?_
        rotate_left
        · (intro W hSw; (try dsimp only at hSw); try simp only [rkO0]; first | (go_simp; done) | (go_simp; with_reducible rfl))
        try simp only [rkO0, Act.put, List.setIfInBounds_toArray, List.set_cons_zero, List.set_cons_succ]
        refine wpAnyH_take (i := 1) (oi := rkO1) (v := ?_) rfl (by kernel_rfl) (by kernel_rfl) (by kernel_rfl) (fun _ _ _ h => h) (Or.inl ⟨by rfl, ?_⟩) (by assumption) ?_
        rotate_left
        · (intro W hSw; (try dsimp only at hSw); try simp only [rkO1]; first | (go_simp; done) | (go_simp; with_reducible rfl))
        try simp only [rkO1, Act.put, List.setIfInBounds_toArray, List.set_cons_zero, List.set_cons_succ]
        refine wpAnyH_take (i := 2) (oi := rkO2) (v := ?_) rfl (by kernel_rfl) (by kernel_rfl) (by kernel_rfl) (fun _ _ _ h => h) (Or.inl ⟨by rfl, ?_⟩) (by assumption) ?_
        rotate_left
        · (intro W hSw; (try dsimp only at hSw); obtain ⟨e0, e1, e2⟩ := hSw; try simp only [rkO2]; first | (go_simp; done) | (go_simp; with_reducible rfl))
        try simp only [rkO2, Act.put, List.setIfInBounds_toArray, List.set_cons_zero, List.set_cons_succ]
        refine wpAnyH_take (i := 3) (oi := rkO3) (v := ?_) rfl (by kernel_rfl) (by kernel_rfl) (by kernel_rfl) (fun _ _ _ h => h) (Or.inl ⟨by rfl, ?_⟩) (by assumption) ?_
        rotate_left
        · (intro W hSw; (try dsimp only at hSw); try simp only [rkO3]; first | (go_simp; done) | (go_simp; with_reducible rfl))
        try simp only [rkO3, Act.put, List.setIfInBounds_toArray, List.set_cons_zero, List.set_cons_succ]
        refine wpAnyH_take (i := 4) (oi := rkO4) (v := ?_) rfl (by kernel_rfl) (by kernel_rfl) (by kernel_rfl) (fun _ _ _ h => h) (Or.inl ⟨by rfl, ?_⟩) (by assumption) ?_
        rotate_left
        · (intro W hSw; (try dsimp only at hSw); obtain ⟨e0, e1, e2⟩ := hSw; try simp only [rkO4]; first | (go_simp; done) | (go_simp; with_reducible rfl))
        try simp only [rkO4, Act.put, List.setIfInBounds_toArray, List.set_cons_zero, List.set_cons_succ]
        refine wpAnyH_take (i := 5) (oi := rkO5) (v := ?_) rfl (by kernel_rfl) (by kernel_rfl) (by kernel_rfl) (fun _ _ _ h => h) (Or.inl ⟨by rfl, ?_⟩) (by assumption) ?_
        rotate_left
        · (intro W hSw; (try dsimp only at hSw); try simp only [rkO5]; first | (go_simp; done) | (go_simp; with_reducible rfl))
        try simp only [rkO5, Act.put, List.setIfInBounds_toArray, List.set_cons_zero, List.set_cons_succ]
        refine wpAnyH_take (i := 9) (oi := rkO9) (v := ?_) rfl (by kernel_rfl) (by kernel_rfl) (by kernel_rfl) (fun _ _ _ h => h) (Or.inl ⟨by rfl, ?_⟩) (by assumption) ?_
        rotate_left
        · (intro W hSw; (try dsimp only at hSw); try simp only [rkO9]; first | (go_simp; done) | (go_simp; with_reducible rfl))
        try simp only [rkO9, Act.put, List.setIfInBounds_toArray, List.set_cons_zero, List.set_cons_succ]
        refine wpAnyH_take (i := 10) (oi := rkO10) (v := ?_) rfl (by kernel_rfl) (by kernel_rfl) (by kernel_rfl) (fun _ _ _ h => h) (Or.inl ⟨by rfl, ?_⟩) (by assumption) ?_
        rotate_left
        · (intro W hSw; (try dsimp only at hSw); obtain ⟨e0, e1, e2⟩ := hSw; try simp only [rkO10]; first | (go_simp; done) | (go_simp; with_reducible rfl))
        try simp only [rkO10, Act.put, List.setIfInBounds_toArray, List.set_cons_zero, List.set_cons_succ]
        refine wpAnyH_take (i := 11) (oi := rkO11) (v := ?_) rfl (by kernel_rfl) (by kernel_rfl) (by kernel_rfl) (fun _ _ _ h => h) (Or.inl ⟨by rfl, ?_⟩) (by assumption) ?_
        rotate_left
        · (intro W hSw; (try dsimp only at hSw); try simp only [rkO11]; first | (go_simp; done) | (go_simp; with_reducible rfl))
        try simp only [rkO11, Act.put, List.setIfInBounds_toArray, List.set_cons_zero, List.set_cons_succ]
        refine wpAnyH_take (i := 12) (oi := rkO12) (v := ?_) rfl (by kernel_rfl) (by kernel_rfl) (by kernel_rfl) (fun _ _ _ h => h) (Or.inl ⟨by rfl, ?_⟩) (by assumption) ?_
        rotate_left
        · (intro W hSw; (try dsimp only at hSw); try simp only [rkO12]; first | (go_simp; done) | (go_simp; with_reducible rfl))
        try simp only [rkO12, Act.put, List.setIfInBounds_toArray, List.set_cons_zero, List.set_cons_succ]
        refine wpAnyH_take (i := 13) (oi := rkO13) (v := ?_) rfl (by kernel_rfl) (by kernel_rfl) (by kernel_rfl) (fun _ _ _ h => h) (Or.inl ⟨by rfl, ?_⟩) (by assumption) ?_
        rotate_left
        · (intro W hSw; (try dsimp only at hSw); obtain ⟨e0, e1, e2⟩ := hSw; try simp only [rkO13]; first | (go_simp; done) | (go_simp; with_reducible rfl))
        try simp only [rkO13, Act.put, List.setIfInBounds_toArray, List.set_cons_zero, List.set_cons_succ]
        refine wpAnyH_take (i := 14) (oi := rkO14) (v := ?_) rfl (by kernel_rfl) (by kernel_rfl) (by kernel_rfl) (fun _ _ _ h => h) (Or.inl ⟨by rfl, ?_⟩) (by assumption) ?_
        rotate_left
        · (intro W hSw; (try dsimp only at hSw); try simp only [rkO14]; first | (go_simp; done) | (go_simp; with_reducible rfl))
        try simp only [rkO14, Act.put, List.setIfInBounds_toArray, List.set_cons_zero, List.set_cons_succ]
        refine wpAnyH_ready (rs := [6, 15]) (by kernel_rfl) (by simp) ?_
        refine AllReadyH.cons (o := rkO6) rfl (fun K hK => ?_) (AllReadyH.cons (o := rkO15) rfl (fun K hK => ?_) AllReadyH.nil)
        ·
          try simp only [rkO6]
          go_simp
          go_wp2_with (go_at_call 32; refine (PW _).mono ?_; rintro e q6 ⟨rfl, rfl⟩)
          refine hK.out _ _ ?_ (fun hHeld => ?_)
          · ((try dsimp only); exact KP.out _ ((Below.refl _ w1).drew))
          clear hK K
          try simp only [Act.put, List.setIfInBounds_toArray, List.set_cons_zero, List.set_cons_succ]
          refine wpAnyH_ready (rs := [7, 15]) (by kernel_rfl) (by simp) ?_
          refine AllReadyH.cons (o := rkO7) rfl (fun K hK => ?_) (AllReadyH.cons (o := rkO15) rfl (fun K hK => ?_) AllReadyH.nil)
          ·
            try simp only [rkO7]
            go_simp
            go_wp2_with (go_at_call 31; refine (WD _).mono ?_; rintro e q7 ⟨y7, rfl, oy7, bz7⟩; have b7 : Below w1.heap.size w1 q7 := below_trans ((Below.refl _ w1).drew) bz7; obtain ⟨g7, k7, rfl, hs7⟩ := Lie.own oy7 nl; have ow7 := ho1.later b7; have bq7 := box1.later b7)
            refine hK.out _ _ ?_ (fun hHeld => ?_)
            · ((try dsimp only); exact KP.out _ b7)
            clear hK K
            try simp only [Act.put, List.setIfInBounds_toArray, List.set_cons_zero, List.set_cons_succ]
            refine wpAnyH_ready (rs := [8, 15]) (by kernel_rfl) (by simp) ?_
            refine AllReadyH.cons (o := rkO8) rfl (fun K hK => ?_) (AllReadyH.cons (o := rkO15) rfl (fun K hK => ?_) AllReadyH.nil)
            ·
              have sz7 := (b7).size
              refine step_append_lies _ (by rfl) _ _ _ (by rfl) w.heap.size 5 i0 _ 1 1 Tryz.underlying23 hi hz0 hz1 hz2 rfl (by omega) _ (D1.length) (bv D1) (by rfl) ow7 ⟨g7, 0, none⟩ N1.length k7 (bv N1) (by rfl) (by simp [bv]) hs7.2 (bv_cell _) (by omega) (by unfold maxLen; omega) (by omega) (by omega) q7.heap.size rfl ?_
              intro g8 c8 w8 hown8 hgr8 hat8 hlt8
              have bq8 := bq7.kept ow7 hgr8
              have ho8 := own_append hown8
              have bel8 : Below w.heap.size w w8 := (bel1.trans ((b7).mono (by omega))).grown hgr8 (by omega) (fun k hk => (World.ownsRow.lt ow7 k hk).1)
              have s8 := bel8.size
              refine hK.out _ _ ?_ (fun hHeld => ?_)
              · ((try dsimp only); exact KB.out _ bq8)
              clear hK K
              try simp only [rkO8, Act.put, List.setIfInBounds_toArray, List.set_cons_zero, List.set_cons_succ]
              refine wpAnyH_ready (rs := [15]) (by kernel_rfl) (by simp) ?_
              refine AllReadyH.cons (o := rkO15) rfl (fun K hK => ?_) AllReadyH.nil
              try simp only [rkO15]
              go_simp
              refine hK.out _ _ ?_ (fun hHeld => ?_)
              · ((try dsimp only); exact KB.out _ (bq8.later ((Below.refl _ w8).alloc (Nat.le_refl _) _)))
              clear hK K
              try simp only [Act.put, List.setIfInBounds_toArray, List.set_cons_zero, List.set_cons_succ]
              have l15 : Lie (w8.alloc (.cells #[.int .u8 (IntKind.u8.wrap 1), .int .u8 (IntKind.u8.wrap 0)] 5)) w8.heap.size [.int .u8 (IntKind.u8.wrap 1), .int .u8 (IntKind.u8.wrap 0)] := Lie.new w8 #[.int .u8 (IntKind.u8.wrap 1), .int .u8 (IntKind.u8.wrap 0)] 5
              have bU := (Below.refl _ w8).alloc (Nat.le_refl _) (.cells #[.int .u8 (IntKind.u8.wrap 1), .int .u8 (IntKind.u8.wrap 0)] 5)
              have oU := ho8.later bU
              have bqU := bq8.later bU
              have zU := bU.size
              have bV := bel8.alloc (by omega) (.cells #[.int .u8 (IntKind.u8.wrap 1), .int .u8 (IntKind.u8.wrap 0)] 5)
              generalize w8.alloc (.cells #[.int .u8 (IntKind.u8.wrap 1), .int .u8 (IntKind.u8.wrap 0)] 5) = wU at *
              generalize w8.heap.size = qU at *
              refine wpAnyH_ready (rs := [16]) (by kernel_rfl) (by simp) ?_
              refine AllReadyH.cons (o := rkO16) rfl (fun K hK => ?_) AllReadyH.nil
              refine step_append_lies _ (by rfl) _ _ _ (by rfl) w.heap.size 5 i0 _ 1 1 Tryz.underlying23 hi hz0 hz1 hz2 rfl (by omega) _ (D1.length + N1.length) (bv D1 ++ bv N1) (by rfl) (own_raw oU) ⟨qU, 0, none⟩ 2 2 [.int .u8 (IntKind.u8.wrap 1), .int .u8 (IntKind.u8.wrap 0)] (by rfl) (by simp) l15.2 (fun x hx => by simp at hx; rcases hx with rfl | rfl <;> rfl) (by omega) (by unfold maxLen; omega) (by omega) (by omega) wU.heap.size rfl ?_
              intro g16 c16 w16 hown16 hgr16 hat16 hlt16
              have bq16 := bqU.kept oU hgr16
              have bel16 : Below w.heap.size w w16 := (bV).grown hgr16 (by omega) (fun k hk => (World.ownsRow.lt oU k hk).1)
              have ho16 := own_end HKM.out hown16
              refine hK.out _ _ ?_ (fun hHeld => ?_)
              · ((try dsimp only); exact KB.out _ bq16)
              clear hK K
              try simp only [rkO16, Act.put, List.setIfInBounds_toArray, List.set_cons_zero, List.set_cons_succ]
              refine wpAnyH_take (i := 17) (oi := rkO17) (v := ?_) rfl (by kernel_rfl) (by kernel_rfl) (by kernel_rfl) (fun _ _ _ h => h) (Or.inl ⟨by rfl, ?_⟩) (by assumption) ?_
              rotate_left
              · (intro W hSw; (try dsimp only at hSw); try simp only [rkO17]; first | (go_simp; done) | (go_simp; with_reducible rfl))
              try simp only [rkO17, Act.put, List.setIfInBounds_toArray, List.set_cons_zero, List.set_cons_succ]
              refine wpAnyH_done (by kernel_rfl) ?_ _
              clear hown16 hgr16 KP KB
              go_wp2
              go_roundw
              case rel => exact ⟨k + 1, by go_num, by omega, by rw [HD.out, HV.out, ← HD1.out]; exact ho16, bel16⟩
              case measure => simp [intOf]; omega
            ·
              try simp only [rkO15]
              go_simp
              refine hK.out _ _ ?_ (fun hHeld => ?_)
              · ((try dsimp only); exact KP.out _ (b7.alloc b7.size (.cells #[.int .u8 (IntKind.u8.wrap 1), .int .u8 (IntKind.u8.wrap 0)] 5)))
              clear hK K
              try simp only [Act.put, List.setIfInBounds_toArray, List.set_cons_zero, List.set_cons_succ]
              have l15 : Lie (q7.alloc (.cells #[.int .u8 (IntKind.u8.wrap 1), .int .u8 (IntKind.u8.wrap 0)] 5)) q7.heap.size [.int .u8 (IntKind.u8.wrap 1), .int .u8 (IntKind.u8.wrap 0)] := Lie.new q7 #[.int .u8 (IntKind.u8.wrap 1), .int .u8 (IntKind.u8.wrap 0)] 5
              have bU := (Below.refl _ q7).alloc (Nat.le_refl _) (.cells #[.int .u8 (IntKind.u8.wrap 1), .int .u8 (IntKind.u8.wrap 0)] 5)
              have hs7U := hs7.later bU
              have bA := below_trans b7 bU
              have ow7U := ow7.later bU
              have bqU := bq7.later bU
              have zq := b7.size
              generalize q7.alloc (.cells #[.int .u8 (IntKind.u8.wrap 1), .int .u8 (IntKind.u8.wrap 0)] 5) = wU at *
              generalize q7.heap.size = qU at *
              refine wpAnyH_ready (rs := [8]) (by kernel_rfl) (by simp) ?_
              refine AllReadyH.cons (o := rkO8) rfl (fun K hK => ?_) AllReadyH.nil
              have sz7 := (bA).size
              refine step_append_lies _ (by rfl) _ _ _ (by rfl) w.heap.size 5 i0 _ 1 1 Tryz.underlying23 hi hz0 hz1 hz2 rfl (by omega) _ (D1.length) (bv D1) (by rfl) ow7U ⟨g7, 0, none⟩ N1.length k7 (bv N1) (by rfl) (by simp [bv]) hs7U.2 (bv_cell _) (by omega) (by unfold maxLen; omega) (by omega) (by omega) wU.heap.size rfl ?_
              intro g8 c8 w8 hown8 hgr8 hat8 hlt8
              have bq8 := bqU.kept ow7U hgr8
              have ho8 := own_append hown8
              have bel8 : Below w.heap.size w w8 := (bel1.trans ((bA).mono (by omega))).grown hgr8 (by omega) (fun k hk => (World.ownsRow.lt ow7U k hk).1)
              have s8 := bel8.size
              have l15c := l15.grown hgr8 (fun e => by have := (World.ownsRow.lt ho1 _ e.symm).2; omega)
              refine hK.out _ _ ?_ (fun hHeld => ?_)
              · ((try dsimp only); exact KB.out _ bq8)
              clear hK K
              try simp only [rkO8, Act.put, List.setIfInBounds_toArray, List.set_cons_zero, List.set_cons_succ]
              refine wpAnyH_ready (rs := [16]) (by kernel_rfl) (by simp) ?_
              refine AllReadyH.cons (o := rkO16) rfl (fun K hK => ?_) AllReadyH.nil
              refine step_append_lies _ (by rfl) _ _ _ (by rfl) w.heap.size 5 i0 _ 1 1 Tryz.underlying23 hi hz0 hz1 hz2 rfl (by omega) _ (D1.length + N1.length) (bv D1 ++ bv N1) (by rfl) (own_raw ho8) ⟨qU, 0, none⟩ 2 2 [.int .u8 (IntKind.u8.wrap 1), .int .u8 (IntKind.u8.wrap 0)] (by rfl) (by simp) l15c.2 (fun x hx => by simp at hx; rcases hx with rfl | rfl <;> rfl) (by omega) (by unfold maxLen; omega) (by omega) (by omega) w8.heap.size rfl ?_
              intro g16 c16 w16 hown16 hgr16 hat16 hlt16
              have bq16 := bq8.kept ho8 hgr16
              have bel16 : Below w.heap.size w w16 := (bel8).grown hgr16 (by omega) (fun k hk => (World.ownsRow.lt ho8 k hk).1)
              have ho16 := own_end HKM.out hown16
              refine hK.out _ _ ?_ (fun hHeld => ?_)
              · ((try dsimp only); exact KB.out _ bq16)
              clear hK K
              try simp only [rkO16, Act.put, List.setIfInBounds_toArray, List.set_cons_zero, List.set_cons_succ]
              refine wpAnyH_take (i := 17) (oi := rkO17) (v := ?_) rfl (by kernel_rfl) (by kernel_rfl) (by kernel_rfl) (fun _ _ _ h => h) (Or.inl ⟨by rfl, ?_⟩) (by assumption) ?_
              rotate_left
              · (intro W hSw; (try dsimp only at hSw); try simp only [rkO17]; first | (go_simp; done) | (go_simp; with_reducible rfl))
              try simp only [rkO17, Act.put, List.setIfInBounds_toArray, List.set_cons_zero, List.set_cons_succ]
              refine wpAnyH_done (by kernel_rfl) ?_ _
              clear hown16 hgr16 KP KB
              go_wp2
              go_roundw
              case rel => exact ⟨k + 1, by go_num, by omega, by rw [HD.out, HV.out, ← HD1.out]; exact ho16, bel16⟩
              case measure => simp [intOf]; omega
          ·
            try simp only [rkO15]
            go_simp
            refine hK.out _ _ ?_ (fun hHeld => ?_)
            · ((try dsimp only); first | exact KP.out _ (((Below.refl _ w1).alloc (Nat.le_refl _) (.cells #[.int .u8 (IntKind.u8.wrap 1), .int .u8 (IntKind.u8.wrap 0)] 5)).drew) | exact KP.out _ ((Below.refl _ w1).drew.alloc (Nat.le_refl _) (.cells #[.int .u8 (IntKind.u8.wrap 1), .int .u8 (IntKind.u8.wrap 0)] 5)))
            clear hK K
            try simp only [Act.put, List.setIfInBounds_toArray, List.set_cons_zero, List.set_cons_succ]
            have l15 : Lie ((w1.alloc (.cells #[.int .u8 (IntKind.u8.wrap 1), .int .u8 (IntKind.u8.wrap 0)] 5)).drew) w1.heap.size [.int .u8 (IntKind.u8.wrap 1), .int .u8 (IntKind.u8.wrap 0)] := (Lie.new w1 #[.int .u8 (IntKind.u8.wrap 1), .int .u8 (IntKind.u8.wrap 0)] 5).later ((Below.refl _ _).drew)
            have bA := ((Below.refl _ w1).alloc (Nat.le_refl _) (.cells #[.int .u8 (IntKind.u8.wrap 1), .int .u8 (IntKind.u8.wrap 0)] 5)).drew
            generalize (w1.alloc (.cells #[.int .u8 (IntKind.u8.wrap 1), .int .u8 (IntKind.u8.wrap 0)] 5)).drew = wA at *
            refine wpAnyH_ready (rs := [7]) (by kernel_rfl) (by simp) ?_
            refine AllReadyH.cons (o := rkO7) rfl (fun K hK => ?_) AllReadyH.nil
            try simp only [rkO7]
            go_simp
            go_wp2_with (go_at_call 31; refine (WD _).mono ?_; rintro e q7 ⟨y7, rfl, oy7, bz7⟩; have b7 : Below w1.heap.size w1 q7 := below_trans bA bz7; obtain ⟨g7, k7, rfl, hs7⟩ := Lie.own oy7 nl; have ow7 := ho1.later b7; have bq7 := box1.later b7; have l15b := l15.later bz7)
            refine hK.out _ _ ?_ (fun hHeld => ?_)
            · ((try dsimp only); exact KP.out _ b7)
            clear hK K
            try simp only [Act.put, List.setIfInBounds_toArray, List.set_cons_zero, List.set_cons_succ]
            refine wpAnyH_ready (rs := [8]) (by kernel_rfl) (by simp) ?_
            refine AllReadyH.cons (o := rkO8) rfl (fun K hK => ?_) AllReadyH.nil
            have sz7 := (b7).size
            refine step_append_lies _ (by rfl) _ _ _ (by rfl) w.heap.size 5 i0 _ 1 1 Tryz.underlying23 hi hz0 hz1 hz2 rfl (by omega) _ (D1.length) (bv D1) (by rfl) ow7 ⟨g7, 0, none⟩ N1.length k7 (bv N1) (by rfl) (by simp [bv]) hs7.2 (bv_cell _) (by omega) (by unfold maxLen; omega) (by omega) (by omega) q7.heap.size rfl ?_
            intro g8 c8 w8 hown8 hgr8 hat8 hlt8
            have bq8 := bq7.kept ow7 hgr8
            have ho8 := own_append hown8
            have bel8 : Below w.heap.size w w8 := (bel1.trans ((b7).mono (by omega))).grown hgr8 (by omega) (fun k hk => (World.ownsRow.lt ow7 k hk).1)
            have s8 := bel8.size
            have l15c := l15b.grown hgr8 (fun e => by have := (World.ownsRow.lt ho1 _ e.symm).2; omega)
            refine hK.out _ _ ?_ (fun hHeld => ?_)
            · ((try dsimp only); exact KB.out _ bq8)
            clear hK K
            try simp only [rkO8, Act.put, List.setIfInBounds_toArray, List.set_cons_zero, List.set_cons_succ]
            refine wpAnyH_ready (rs := [16]) (by kernel_rfl) (by simp) ?_
            refine AllReadyH.cons (o := rkO16) rfl (fun K hK => ?_) AllReadyH.nil
            refine step_append_lies _ (by rfl) _ _ _ (by rfl) w.heap.size 5 i0 _ 1 1 Tryz.underlying23 hi hz0 hz1 hz2 rfl (by omega) _ (D1.length + N1.length) (bv D1 ++ bv N1) (by rfl) (own_raw ho8) ⟨w1.heap.size, 0, none⟩ 2 2 [.int .u8 (IntKind.u8.wrap 1), .int .u8 (IntKind.u8.wrap 0)] (by rfl) (by simp) l15c.2 (fun x hx => by simp at hx; rcases hx with rfl | rfl <;> rfl) (by omega) (by unfold maxLen; omega) (by omega) (by omega) w8.heap.size rfl ?_
            intro g16 c16 w16 hown16 hgr16 hat16 hlt16
            have bq16 := bq8.kept ho8 hgr16
            have bel16 : Below w.heap.size w w16 := (bel8).grown hgr16 (by omega) (fun k hk => (World.ownsRow.lt ho8 k hk).1)
            have ho16 := own_end HKM.out hown16
            refine hK.out _ _ ?_ (fun hHeld => ?_)
            · ((try dsimp only); exact KB.out _ bq16)
            clear hK K
            try simp only [rkO16, Act.put, List.setIfInBounds_toArray, List.set_cons_zero, List.set_cons_succ]
            refine wpAnyH_take (i := 17) (oi := rkO17) (v := ?_) rfl (by kernel_rfl) (by kernel_rfl) (by kernel_rfl) (fun _ _ _ h => h) (Or.inl ⟨by rfl, ?_⟩) (by assumption) ?_
            rotate_left
            · (intro W hSw; (try dsimp only at hSw); try simp only [rkO17]; first | (go_simp; done) | (go_simp; with_reducible rfl))
            try simp only [rkO17, Act.put, List.setIfInBounds_toArray, List.set_cons_zero, List.set_cons_succ]
            refine wpAnyH_done (by kernel_rfl) ?_ _
            clear hown16 hgr16 KP KB
            go_wp2
            go_roundw
            case rel => exact ⟨k + 1, by go_num, by omega, by rw [HD.out, HV.out, ← HD1.out]; exact ho16, bel16⟩
            case measure => simp [intOf]; omega
        ·
          try simp only [rkO15]
          go_simp
          refine hK.out _ _ ?_ (fun hHeld => ?_)
          · ((try dsimp only); first | exact KP.out _ (((Below.refl _ w1).alloc (Nat.le_refl _) (.cells #[.int .u8 (IntKind.u8.wrap 1), .int .u8 (IntKind.u8.wrap 0)] 5)).drew) | exact KP.out _ ((Below.refl _ w1).drew.alloc (Nat.le_refl _) (.cells #[.int .u8 (IntKind.u8.wrap 1), .int .u8 (IntKind.u8.wrap 0)] 5)))
          clear hK K
          try simp only [Act.put, List.setIfInBounds_toArray, List.set_cons_zero, List.set_cons_succ]
          have l15 : Lie ((w1.alloc (.cells #[.int .u8 (IntKind.u8.wrap 1), .int .u8 (IntKind.u8.wrap 0)] 5)).drew) w1.heap.size [.int .u8 (IntKind.u8.wrap 1), .int .u8 (IntKind.u8.wrap 0)] := (Lie.new w1 #[.int .u8 (IntKind.u8.wrap 1), .int .u8 (IntKind.u8.wrap 0)] 5).later ((Below.refl _ _).drew)
          have bA := ((Below.refl _ w1).alloc (Nat.le_refl _) (.cells #[.int .u8 (IntKind.u8.wrap 1), .int .u8 (IntKind.u8.wrap 0)] 5)).drew
          generalize (w1.alloc (.cells #[.int .u8 (IntKind.u8.wrap 1), .int .u8 (IntKind.u8.wrap 0)] 5)).drew = wA at *
          refine wpAnyH_ready (rs := [6]) (by kernel_rfl) (by simp) ?_
          refine AllReadyH.cons (o := rkO6) rfl (fun K hK => ?_) AllReadyH.nil
          try simp only [rkO6]
          go_simp
          go_wp2_with (go_at_call 32; refine (PW _).mono ?_; rintro e q6 ⟨rfl, rfl⟩)
          refine hK.out _ _ ?_ (fun hHeld => ?_)
          · ((try dsimp only); exact KP.out _ bA)
          clear hK K
          try simp only [Act.put, List.setIfInBounds_toArray, List.set_cons_zero, List.set_cons_succ]
          refine wpAnyH_ready (rs := [7]) (by kernel_rfl) (by simp) ?_
          refine AllReadyH.cons (o := rkO7) rfl (fun K hK => ?_) AllReadyH.nil
          try simp only [rkO7]
          go_simp
          go_wp2_with (go_at_call 31; refine (WD _).mono ?_; rintro e q7 ⟨y7, rfl, oy7, bz7⟩; have b7 : Below w1.heap.size w1 q7 := below_trans bA bz7; obtain ⟨g7, k7, rfl, hs7⟩ := Lie.own oy7 nl; have ow7 := ho1.later b7; have bq7 := box1.later b7; have l15b := l15.later bz7)
          refine hK.out _ _ ?_ (fun hHeld => ?_)
          · ((try dsimp only); exact KP.out _ b7)
          clear hK K
          try simp only [Act.put, List.setIfInBounds_toArray, List.set_cons_zero, List.set_cons_succ]
          refine wpAnyH_ready (rs := [8]) (by kernel_rfl) (by simp) ?_
          refine AllReadyH.cons (o := rkO8) rfl (fun K hK => ?_) AllReadyH.nil
          have sz7 := (b7).size
          refine step_append_lies _ (by rfl) _ _ _ (by rfl) w.heap.size 5 i0 _ 1 1 Tryz.underlying23 hi hz0 hz1 hz2 rfl (by omega) _ (D1.length) (bv D1) (by rfl) ow7 ⟨g7, 0, none⟩ N1.length k7 (bv N1) (by rfl) (by simp [bv]) hs7.2 (bv_cell _) (by omega) (by unfold maxLen; omega) (by omega) (by omega) q7.heap.size rfl ?_
          intro g8 c8 w8 hown8 hgr8 hat8 hlt8
          have bq8 := bq7.kept ow7 hgr8
          have ho8 := own_append hown8
          have bel8 : Below w.heap.size w w8 := (bel1.trans ((b7).mono (by omega))).grown hgr8 (by omega) (fun k hk => (World.ownsRow.lt ow7 k hk).1)
          have s8 := bel8.size
          have l15c := l15b.grown hgr8 (fun e => by have := (World.ownsRow.lt ho1 _ e.symm).2; omega)
          refine hK.out _ _ ?_ (fun hHeld => ?_)
          · ((try dsimp only); exact KB.out _ bq8)
          clear hK K
          try simp only [rkO8, Act.put, List.setIfInBounds_toArray, List.set_cons_zero, List.set_cons_succ]
          refine wpAnyH_ready (rs := [16]) (by kernel_rfl) (by simp) ?_
          refine AllReadyH.cons (o := rkO16) rfl (fun K hK => ?_) AllReadyH.nil
          refine step_append_lies _ (by rfl) _ _ _ (by rfl) w.heap.size 5 i0 _ 1 1 Tryz.underlying23 hi hz0 hz1 hz2 rfl (by omega) _ (D1.length + N1.length) (bv D1 ++ bv N1) (by rfl) (own_raw ho8) ⟨w1.heap.size, 0, none⟩ 2 2 [.int .u8 (IntKind.u8.wrap 1), .int .u8 (IntKind.u8.wrap 0)] (by rfl) (by simp) l15c.2 (fun x hx => by simp at hx; rcases hx with rfl | rfl <;> rfl) (by omega) (by unfold maxLen; omega) (by omega) (by omega) w8.heap.size rfl ?_
          intro g16 c16 w16 hown16 hgr16 hat16 hlt16
          have bq16 := bq8.kept ho8 hgr16
          have bel16 : Below w.heap.size w w16 := (bel8).grown hgr16 (by omega) (fun k hk => (World.ownsRow.lt ho8 k hk).1)
          have ho16 := own_end HKM.out hown16
          refine hK.out _ _ ?_ (fun hHeld => ?_)
          · ((try dsimp only); exact KB.out _ bq16)
          clear hK K
          try simp only [rkO16, Act.put, List.setIfInBounds_toArray, List.set_cons_zero, List.set_cons_succ]
          refine wpAnyH_take (i := 17) (oi := rkO17) (v := ?_) rfl (by kernel_rfl) (by kernel_rfl) (by kernel_rfl) (fun _ _ _ h => h) (Or.inl ⟨by rfl, ?_⟩) (by assumption) ?_
          rotate_left
          · (intro W hSw; (try dsimp only at hSw); try simp only [rkO17]; first | (go_simp; done) | (go_simp; with_reducible rfl))
          try simp only [rkO17, Act.put, List.setIfInBounds_toArray, List.set_cons_zero, List.set_cons_succ]
          refine wpAnyH_done (by kernel_rfl) ?_ _
          clear hown16 hgr16 KP KB
          go_wp2
          go_roundw
          case rel => exact ⟨k + 1, by go_num, by omega, by rw [HD.out, HV.out, ← HD1.out]; exact ho16, bel16⟩
          case measure => simp [intOf]; omega

      · have boxA := Box.new wr 2 vn vm []
        have ownA : Own (wr.alloc (.cells #[.int .i64 2, .int .i64 vn, .int .i64 vm, .string ⟨#[]⟩] 47)) w.heap.size u4 D := World.ownsRow.alloc ho _
        have belA : Below w.heap.size w (wr.alloc (.cells #[.int .i64 2, .int .i64 vn, .int .i64 vm, .string ⟨#[]⟩] 47)) := hB.alloc (by omega) _
        have szA := belA.size
        have CL := fun W => class_any 2 W
        rw [show clsK 2 = 2 by decide] at CL
        go_upto_region 10 with fail
        generalize hWA : wr.alloc (.cells #[.int .i64 2, .int .i64 vn, .int .i64 vm, .string ⟨#[]⟩] 47) = wA at *
        clear hWA c0 c1 c2 c3
        obtain ⟨c0, c1, c2, c3⟩ := boxA.at4
        simp only at c0 c1 c2 c3
        go_wp2_with fail
        refine (CL _).mono ?_
        rintro e wq ⟨rfl, rfl⟩
        clear CL
        go_wp2_with (at_builtin; refine wpList_append_own _ rfl _ _ 23 rfl w.heap.size 5 i0 (.int .u8 0) 1 1 Tryz.underlying23 hi hz0 hz1 hz2 rfl (by decide) _ _ _ rfl (World.ownsRow.alloc ownA _) ⟨wA.heap.size, 0, none⟩ 1 1 [.int .u8 2] rfl rfl (cell_one_new _ _ _) (one_cell _ _) (by unfold maxLen; omega) (by omega) (by simp; omega) ?_)
        intro v1 w1 hown1 hgrow1 _
        have box1 := (Box.later boxA ((Below.refl _ _).alloc (Nat.le_refl _) _)).kept (World.ownsRow.alloc ownA _) hgrow1
        have bel1 : Below w.heap.size w w1 := ((belA.alloc (by omega) _).grown hgrow1 (by simp; omega) (fun k hk => (World.ownsRow.lt ownA k hk).1))
        have ho1 := own_push (b := 2) hown1
        have sz1 := bel1.size
        obtain ⟨D1, hD1⟩ : ∃ D1, D1 = D ++ [2] := ⟨_, rfl⟩
        have HD1 : Hid (D1 = D ++ [2]) := hD1
        have hl1 : D1.length ≤ 40001 := by rw [hD1]; simp; omega
        rw [← hD1] at ho1
        clear hD1
        clear hown1 hgrow1 c0 c1 c2 c3 ownA belA boxA
        obtain ⟨c0, c1, c2, c3⟩ := box1.at4
        simp only at c0 c1 c2 c3
        obtain ⟨j, hj⟩ : ∃ j : Nat, j = (6 - vm).toNat := ⟨_, rfl⟩
        have hjv : (6 : Int) - vm = (j : Int) := by omega
        have hjl : j < 13 := by omega
        have hjw : IntKind.i64.wrap (j : Int) = (j : Int) := by rw [IntKind.wrap_i64]; omega
        have hmw : IntKind.u8.wrap vm = vm := by rw [IntKind.wrap_u8]; omega
        obtain ⟨p, hp⟩ : ∃ p : Nat, p = 10 ^ j := ⟨_, rfl⟩
        have hp1 : 1 ≤ p := by rw [hp]; exact Nat.one_le_pow _ _ (by decide)
        have hp2 : p ≤ 1000000 := by rw [hp]; exact Nat.le_trans (Nat.pow_le_pow_right (by decide) (show j ≤ 6 by omega)) (by decide)
        have PW : ∀ W, Calls Tryz.prog 32 #[.int .i64 (j : Int)] W fun e w' => e = .returned (.int .i64 (p : Int)) ∧ W = w' := fun W => by rw [hp]; exact power_any j W hjl
        have WD := fun W => wide_any vn p W hik.1.1 hik.1.2 hp1 hp2
        have HV : Hid (D ++ vkey ⟨2, vn, vm, []⟩ = D ++ [2] ++ (bigE 16 (vn * (p : Int) + 2 ^ 127).toNat ++ [2, UInt8.ofNat vm.toNat])) := by show _ = _; rw [hp]; simp [vkey, at6, hj]
        have HKM : Hid ((IntKind.u8.wrap 2 = (((2 : UInt8).toNat : Nat) : Int)) ∧ (IntKind.u8.wrap vm = (((UInt8.ofNat vm.toNat).toNat : Nat) : Int))) := ⟨by decide, by rw [hmw, UInt8.toNat_ofNat_of_lt' (by show _ < 256; omega)]; omega⟩
        have nl : 0 < (bigE 16 (vn * (p : Int) + 2 ^ 127).toNat).length := by rw [bigE_len]; omega
        have nl' : (bigE 16 (vn * (p : Int) + 2 ^ 127).toNat).length ≤ 20 := by rw [bigE_len]; omega
        generalize bigE 16 (vn * (p : Int) + 2 ^ 127).toNat = N1 at *
        clear hp hj hmw
        have KB : Hid (∀ W, Box W wr.heap.size ⟨2, vn, vm, []⟩ → W.cell? ⟨wr.heap.size, 0, none⟩ = some (.int .i64 2) ∧ W.cell? ⟨wr.heap.size, 1, none⟩ = some (.int .i64 vn) ∧ W.cell? ⟨wr.heap.size, 2, none⟩ = some (.int .i64 vm)) := fun W h => by obtain ⟨x0, x1, x2, _⟩ := h.at4; simp only [Nat.zero_add] at x0 x1 x2; exact ⟨x0, x1, x2⟩
        have KP : Hid (∀ W, Below w1.heap.size w1 W → W.cell? ⟨wr.heap.size, 0, none⟩ = some (.int .i64 2) ∧ W.cell? ⟨wr.heap.size, 1, none⟩ = some (.int .i64 vn) ∧ W.cell? ⟨wr.heap.size, 2, none⟩ = some (.int .i64 vm)) := fun W h => KB.out W (box1.later h)
        go_upto_region 14 with fail
        refine wp_region_held_drew (S := (fun W => W.cell? ⟨wr.heap.size, 0, none⟩ = some (.int .i64 2) ∧ W.cell? ⟨wr.heap.size, 1, none⟩ = some (.int .i64 vn) ∧ W.cell? ⟨wr.heap.size, 2, none⟩ = some (.int .i64 vm))) (by kernel_rfl) ?_ (fun hHeld => ?_)
        · ((try dsimp only); exact KP.out _ ((Below.refl _ w1).drew))
        refine wpAnyH_take (i := 0) (oi := rkO0) (v := ?_) rfl (by kernel_rfl) (by kernel_rfl) (by kernel_rfl) (fun _ _ _ h => h) (Or.inl ⟨by rfl, ?_⟩) (by assumption) ?_
        rotate_left
        · (intro W hSw; (try dsimp only at hSw); try simp only [rkO0]; first | (go_simp; done) | (go_simp; with_reducible rfl))
        try simp only [rkO0, Act.put, List.setIfInBounds_toArray, List.set_cons_zero, List.set_cons_succ]
        refine wpAnyH_take (i := 1) (oi := rkO1) (v := ?_) rfl (by kernel_rfl) (by kernel_rfl) (by kernel_rfl) (fun _ _ _ h => h) (Or.inl ⟨by rfl, ?_⟩) (by assumption) ?_
        rotate_left
        · (intro W hSw; (try dsimp only at hSw); try simp only [rkO1]; first | (go_simp; done) | (go_simp; with_reducible rfl))
        try simp only [rkO1, Act.put, List.setIfInBounds_toArray, List.set_cons_zero, List.set_cons_succ]
        refine wpAnyH_take (i := 2) (oi := rkO2) (v := ?_) rfl (by kernel_rfl) (by kernel_rfl) (by kernel_rfl) (fun _ _ _ h => h) (Or.inl ⟨by rfl, ?_⟩) (by assumption) ?_
        rotate_left
        · (intro W hSw; (try dsimp only at hSw); obtain ⟨e0, e1, e2⟩ := hSw; try simp only [rkO2]; first | (go_simp; done) | (go_simp; with_reducible rfl))
        try simp only [rkO2, Act.put, List.setIfInBounds_toArray, List.set_cons_zero, List.set_cons_succ]
        refine wpAnyH_take (i := 3) (oi := rkO3) (v := ?_) rfl (by kernel_rfl) (by kernel_rfl) (by kernel_rfl) (fun _ _ _ h => h) (Or.inl ⟨by rfl, ?_⟩) (by assumption) ?_
        rotate_left
        · (intro W hSw; (try dsimp only at hSw); try simp only [rkO3]; first | (go_simp; done) | (go_simp; with_reducible rfl))
        try simp only [rkO3, Act.put, List.setIfInBounds_toArray, List.set_cons_zero, List.set_cons_succ]
        refine wpAnyH_take (i := 4) (oi := rkO4) (v := ?_) rfl (by kernel_rfl) (by kernel_rfl) (by kernel_rfl) (fun _ _ _ h => h) (Or.inl ⟨by rfl, ?_⟩) (by assumption) ?_
        rotate_left
        · (intro W hSw; (try dsimp only at hSw); obtain ⟨e0, e1, e2⟩ := hSw; try simp only [rkO4]; first | (go_simp; done) | (go_simp; with_reducible rfl))
        try simp only [rkO4, Act.put, List.setIfInBounds_toArray, List.set_cons_zero, List.set_cons_succ]
        refine wpAnyH_take (i := 5) (oi := rkO5) (v := ?_) rfl (by kernel_rfl) (by kernel_rfl) (by kernel_rfl) (fun _ _ _ h => h) (Or.inl ⟨by rfl, ?_⟩) (by assumption) ?_
        rotate_left
        · (intro W hSw; (try dsimp only at hSw); try simp only [rkO5]; first | (go_simp; done) | (go_simp; with_reducible rfl))
        try simp only [rkO5, Act.put, List.setIfInBounds_toArray, List.set_cons_zero, List.set_cons_succ]
        refine wpAnyH_take (i := 9) (oi := rkO9) (v := ?_) rfl (by kernel_rfl) (by kernel_rfl) (by kernel_rfl) (fun _ _ _ h => h) (Or.inl ⟨by rfl, ?_⟩) (by assumption) ?_
        rotate_left
        · (intro W hSw; (try dsimp only at hSw); try simp only [rkO9]; first | (go_simp; done) | (go_simp; with_reducible rfl))
        try simp only [rkO9, Act.put, List.setIfInBounds_toArray, List.set_cons_zero, List.set_cons_succ]
        refine wpAnyH_take (i := 10) (oi := rkO10) (v := ?_) rfl (by kernel_rfl) (by kernel_rfl) (by kernel_rfl) (fun _ _ _ h => h) (Or.inl ⟨by rfl, ?_⟩) (by assumption) ?_
        rotate_left
        · (intro W hSw; (try dsimp only at hSw); obtain ⟨e0, e1, e2⟩ := hSw; try simp only [rkO10]; first | (go_simp; done) | (go_simp; with_reducible rfl))
        try simp only [rkO10, Act.put, List.setIfInBounds_toArray, List.set_cons_zero, List.set_cons_succ]
        refine wpAnyH_take (i := 11) (oi := rkO11) (v := ?_) rfl (by kernel_rfl) (by kernel_rfl) (by kernel_rfl) (fun _ _ _ h => h) (Or.inl ⟨by rfl, ?_⟩) (by assumption) ?_
        rotate_left
        · (intro W hSw; (try dsimp only at hSw); try simp only [rkO11]; first | (go_simp; done) | (go_simp; with_reducible rfl))
        try simp only [rkO11, Act.put, List.setIfInBounds_toArray, List.set_cons_zero, List.set_cons_succ]
        refine wpAnyH_take (i := 12) (oi := rkO12) (v := ?_) rfl (by kernel_rfl) (by kernel_rfl) (by kernel_rfl) (fun _ _ _ h => h) (Or.inl ⟨by rfl, ?_⟩) (by assumption) ?_
        rotate_left
        · (intro W hSw; (try dsimp only at hSw); try simp only [rkO12]; first | (go_simp; done) | (go_simp; with_reducible rfl))
        try simp only [rkO12, Act.put, List.setIfInBounds_toArray, List.set_cons_zero, List.set_cons_succ]
        refine wpAnyH_take (i := 13) (oi := rkO13) (v := ?_) rfl (by kernel_rfl) (by kernel_rfl) (by kernel_rfl) (fun _ _ _ h => h) (Or.inl ⟨by rfl, ?_⟩) (by assumption) ?_
        rotate_left
        · (intro W hSw; (try dsimp only at hSw); obtain ⟨e0, e1, e2⟩ := hSw; try simp only [rkO13]; first | (go_simp; done) | (go_simp; with_reducible rfl))
        try simp only [rkO13, Act.put, List.setIfInBounds_toArray, List.set_cons_zero, List.set_cons_succ]
        refine wpAnyH_take (i := 14) (oi := rkO14) (v := ?_) rfl (by kernel_rfl) (by kernel_rfl) (by kernel_rfl) (fun _ _ _ h => h) (Or.inl ⟨by rfl, ?_⟩) (by assumption) ?_
        rotate_left
        · (intro W hSw; (try dsimp only at hSw); try simp only [rkO14]; first | (go_simp; done) | (go_simp; with_reducible rfl))
        try simp only [rkO14, Act.put, List.setIfInBounds_toArray, List.set_cons_zero, List.set_cons_succ]
        refine wpAnyH_ready (rs := [6, 15]) (by kernel_rfl) (by simp) ?_
        refine AllReadyH.cons (o := rkO6) rfl (fun K hK => ?_) (AllReadyH.cons (o := rkO15) rfl (fun K hK => ?_) AllReadyH.nil)
        ·
          try simp only [rkO6]
          go_simp
          go_wp2_with (go_at_call 32; refine (PW _).mono ?_; rintro e q6 ⟨rfl, rfl⟩)
          refine hK.out _ _ ?_ (fun hHeld => ?_)
          · ((try dsimp only); exact KP.out _ ((Below.refl _ w1).drew))
          clear hK K
          try simp only [Act.put, List.setIfInBounds_toArray, List.set_cons_zero, List.set_cons_succ]
          refine wpAnyH_ready (rs := [7, 15]) (by kernel_rfl) (by simp) ?_
          refine AllReadyH.cons (o := rkO7) rfl (fun K hK => ?_) (AllReadyH.cons (o := rkO15) rfl (fun K hK => ?_) AllReadyH.nil)
          ·
            try simp only [rkO7]
            go_simp
            go_wp2_with (go_at_call 31; refine (WD _).mono ?_; rintro e q7 ⟨y7, rfl, oy7, bz7⟩; have b7 : Below w1.heap.size w1 q7 := below_trans ((Below.refl _ w1).drew) bz7; obtain ⟨g7, k7, rfl, hs7⟩ := Lie.own oy7 nl; have ow7 := ho1.later b7; have bq7 := box1.later b7)
            refine hK.out _ _ ?_ (fun hHeld => ?_)
            · ((try dsimp only); exact KP.out _ b7)
            clear hK K
            try simp only [Act.put, List.setIfInBounds_toArray, List.set_cons_zero, List.set_cons_succ]
            refine wpAnyH_ready (rs := [8, 15]) (by kernel_rfl) (by simp) ?_
            refine AllReadyH.cons (o := rkO8) rfl (fun K hK => ?_) (AllReadyH.cons (o := rkO15) rfl (fun K hK => ?_) AllReadyH.nil)
            ·
              have sz7 := (b7).size
              refine step_append_lies _ (by rfl) _ _ _ (by rfl) w.heap.size 5 i0 _ 1 1 Tryz.underlying23 hi hz0 hz1 hz2 rfl (by omega) _ (D1.length) (bv D1) (by rfl) ow7 ⟨g7, 0, none⟩ N1.length k7 (bv N1) (by rfl) (by simp [bv]) hs7.2 (bv_cell _) (by omega) (by unfold maxLen; omega) (by omega) (by omega) q7.heap.size rfl ?_
              intro g8 c8 w8 hown8 hgr8 hat8 hlt8
              have bq8 := bq7.kept ow7 hgr8
              have ho8 := own_append hown8
              have bel8 : Below w.heap.size w w8 := (bel1.trans ((b7).mono (by omega))).grown hgr8 (by omega) (fun k hk => (World.ownsRow.lt ow7 k hk).1)
              have s8 := bel8.size
              refine hK.out _ _ ?_ (fun hHeld => ?_)
              · ((try dsimp only); exact KB.out _ bq8)
              clear hK K
              try simp only [rkO8, Act.put, List.setIfInBounds_toArray, List.set_cons_zero, List.set_cons_succ]
              refine wpAnyH_ready (rs := [15]) (by kernel_rfl) (by simp) ?_
              refine AllReadyH.cons (o := rkO15) rfl (fun K hK => ?_) AllReadyH.nil
              try simp only [rkO15]
              go_simp
              refine hK.out _ _ ?_ (fun hHeld => ?_)
              · ((try dsimp only); exact KB.out _ (bq8.later ((Below.refl _ w8).alloc (Nat.le_refl _) _)))
              clear hK K
              try simp only [Act.put, List.setIfInBounds_toArray, List.set_cons_zero, List.set_cons_succ]
              have l15 : Lie (w8.alloc (.cells #[.int .u8 (IntKind.u8.wrap 2), .int .u8 (IntKind.u8.wrap vm)] 5)) w8.heap.size [.int .u8 (IntKind.u8.wrap 2), .int .u8 (IntKind.u8.wrap vm)] := Lie.new w8 #[.int .u8 (IntKind.u8.wrap 2), .int .u8 (IntKind.u8.wrap vm)] 5
              have bU := (Below.refl _ w8).alloc (Nat.le_refl _) (.cells #[.int .u8 (IntKind.u8.wrap 2), .int .u8 (IntKind.u8.wrap vm)] 5)
              have oU := ho8.later bU
              have bqU := bq8.later bU
              have zU := bU.size
              have bV := bel8.alloc (by omega) (.cells #[.int .u8 (IntKind.u8.wrap 2), .int .u8 (IntKind.u8.wrap vm)] 5)
              generalize w8.alloc (.cells #[.int .u8 (IntKind.u8.wrap 2), .int .u8 (IntKind.u8.wrap vm)] 5) = wU at *
              generalize w8.heap.size = qU at *
              refine wpAnyH_ready (rs := [16]) (by kernel_rfl) (by simp) ?_
              refine AllReadyH.cons (o := rkO16) rfl (fun K hK => ?_) AllReadyH.nil
              refine step_append_lies _ (by rfl) _ _ _ (by rfl) w.heap.size 5 i0 _ 1 1 Tryz.underlying23 hi hz0 hz1 hz2 rfl (by omega) _ (D1.length + N1.length) (bv D1 ++ bv N1) (by rfl) (own_raw oU) ⟨qU, 0, none⟩ 2 2 [.int .u8 (IntKind.u8.wrap 2), .int .u8 (IntKind.u8.wrap vm)] (by rfl) (by simp) l15.2 (fun x hx => by simp at hx; rcases hx with rfl | rfl <;> rfl) (by omega) (by unfold maxLen; omega) (by omega) (by omega) wU.heap.size rfl ?_
              intro g16 c16 w16 hown16 hgr16 hat16 hlt16
              have bq16 := bqU.kept oU hgr16
              have bel16 : Below w.heap.size w w16 := (bV).grown hgr16 (by omega) (fun k hk => (World.ownsRow.lt oU k hk).1)
              have ho16 := own_end HKM.out hown16
              refine hK.out _ _ ?_ (fun hHeld => ?_)
              · ((try dsimp only); exact KB.out _ bq16)
              clear hK K
              try simp only [rkO16, Act.put, List.setIfInBounds_toArray, List.set_cons_zero, List.set_cons_succ]
              refine wpAnyH_take (i := 17) (oi := rkO17) (v := ?_) rfl (by kernel_rfl) (by kernel_rfl) (by kernel_rfl) (fun _ _ _ h => h) (Or.inl ⟨by rfl, ?_⟩) (by assumption) ?_
              rotate_left
              · (intro W hSw; (try dsimp only at hSw); try simp only [rkO17]; first | (go_simp; done) | (go_simp; with_reducible rfl))
              try simp only [rkO17, Act.put, List.setIfInBounds_toArray, List.set_cons_zero, List.set_cons_succ]
              refine wpAnyH_done (by kernel_rfl) ?_ _
              clear hown16 hgr16 KP KB
              go_wp2
              go_roundw
              case rel => exact ⟨k + 1, by go_num, by omega, by rw [HD.out, HV.out, ← HD1.out]; exact ho16, bel16⟩
              case measure => simp [intOf]; omega
            ·
              try simp only [rkO15]
              go_simp
              refine hK.out _ _ ?_ (fun hHeld => ?_)
              · ((try dsimp only); exact KP.out _ (b7.alloc b7.size (.cells #[.int .u8 (IntKind.u8.wrap 2), .int .u8 (IntKind.u8.wrap vm)] 5)))
              clear hK K
              try simp only [Act.put, List.setIfInBounds_toArray, List.set_cons_zero, List.set_cons_succ]
              have l15 : Lie (q7.alloc (.cells #[.int .u8 (IntKind.u8.wrap 2), .int .u8 (IntKind.u8.wrap vm)] 5)) q7.heap.size [.int .u8 (IntKind.u8.wrap 2), .int .u8 (IntKind.u8.wrap vm)] := Lie.new q7 #[.int .u8 (IntKind.u8.wrap 2), .int .u8 (IntKind.u8.wrap vm)] 5
              have bU := (Below.refl _ q7).alloc (Nat.le_refl _) (.cells #[.int .u8 (IntKind.u8.wrap 2), .int .u8 (IntKind.u8.wrap vm)] 5)
              have hs7U := hs7.later bU
              have bA := below_trans b7 bU
              have ow7U := ow7.later bU
              have bqU := bq7.later bU
              have zq := b7.size
              generalize q7.alloc (.cells #[.int .u8 (IntKind.u8.wrap 2), .int .u8 (IntKind.u8.wrap vm)] 5) = wU at *
              generalize q7.heap.size = qU at *
              refine wpAnyH_ready (rs := [8]) (by kernel_rfl) (by simp) ?_
              refine AllReadyH.cons (o := rkO8) rfl (fun K hK => ?_) AllReadyH.nil
              have sz7 := (bA).size
              refine step_append_lies _ (by rfl) _ _ _ (by rfl) w.heap.size 5 i0 _ 1 1 Tryz.underlying23 hi hz0 hz1 hz2 rfl (by omega) _ (D1.length) (bv D1) (by rfl) ow7U ⟨g7, 0, none⟩ N1.length k7 (bv N1) (by rfl) (by simp [bv]) hs7U.2 (bv_cell _) (by omega) (by unfold maxLen; omega) (by omega) (by omega) wU.heap.size rfl ?_
              intro g8 c8 w8 hown8 hgr8 hat8 hlt8
              have bq8 := bqU.kept ow7U hgr8
              have ho8 := own_append hown8
              have bel8 : Below w.heap.size w w8 := (bel1.trans ((bA).mono (by omega))).grown hgr8 (by omega) (fun k hk => (World.ownsRow.lt ow7U k hk).1)
              have s8 := bel8.size
              have l15c := l15.grown hgr8 (fun e => by have := (World.ownsRow.lt ho1 _ e.symm).2; omega)
              refine hK.out _ _ ?_ (fun hHeld => ?_)
              · ((try dsimp only); exact KB.out _ bq8)
              clear hK K
              try simp only [rkO8, Act.put, List.setIfInBounds_toArray, List.set_cons_zero, List.set_cons_succ]
              refine wpAnyH_ready (rs := [16]) (by kernel_rfl) (by simp) ?_
              refine AllReadyH.cons (o := rkO16) rfl (fun K hK => ?_) AllReadyH.nil
              refine step_append_lies _ (by rfl) _ _ _ (by rfl) w.heap.size 5 i0 _ 1 1 Tryz.underlying23 hi hz0 hz1 hz2 rfl (by omega) _ (D1.length + N1.length) (bv D1 ++ bv N1) (by rfl) (own_raw ho8) ⟨qU, 0, none⟩ 2 2 [.int .u8 (IntKind.u8.wrap 2), .int .u8 (IntKind.u8.wrap vm)] (by rfl) (by simp) l15c.2 (fun x hx => by simp at hx; rcases hx with rfl | rfl <;> rfl) (by omega) (by unfold maxLen; omega) (by omega) (by omega) w8.heap.size rfl ?_
              intro g16 c16 w16 hown16 hgr16 hat16 hlt16
              have bq16 := bq8.kept ho8 hgr16
              have bel16 : Below w.heap.size w w16 := (bel8).grown hgr16 (by omega) (fun k hk => (World.ownsRow.lt ho8 k hk).1)
              have ho16 := own_end HKM.out hown16
              refine hK.out _ _ ?_ (fun hHeld => ?_)
              · ((try dsimp only); exact KB.out _ bq16)
              clear hK K
              try simp only [rkO16, Act.put, List.setIfInBounds_toArray, List.set_cons_zero, List.set_cons_succ]
              refine wpAnyH_take (i := 17) (oi := rkO17) (v := ?_) rfl (by kernel_rfl) (by kernel_rfl) (by kernel_rfl) (fun _ _ _ h => h) (Or.inl ⟨by rfl, ?_⟩) (by assumption) ?_
              rotate_left
              · (intro W hSw; (try dsimp only at hSw); try simp only [rkO17]; first | (go_simp; done) | (go_simp; with_reducible rfl))
              try simp only [rkO17, Act.put, List.setIfInBounds_toArray, List.set_cons_zero, List.set_cons_succ]
              refine wpAnyH_done (by kernel_rfl) ?_ _
              clear hown16 hgr16 KP KB
              go_wp2
              go_roundw
              case rel => exact ⟨k + 1, by go_num, by omega, by rw [HD.out, HV.out, ← HD1.out]; exact ho16, bel16⟩
              case measure => simp [intOf]; omega
          ·
            try simp only [rkO15]
            go_simp
            refine hK.out _ _ ?_ (fun hHeld => ?_)
            · ((try dsimp only); first | exact KP.out _ (((Below.refl _ w1).alloc (Nat.le_refl _) (.cells #[.int .u8 (IntKind.u8.wrap 2), .int .u8 (IntKind.u8.wrap vm)] 5)).drew) | exact KP.out _ ((Below.refl _ w1).drew.alloc (Nat.le_refl _) (.cells #[.int .u8 (IntKind.u8.wrap 2), .int .u8 (IntKind.u8.wrap vm)] 5)))
            clear hK K
            try simp only [Act.put, List.setIfInBounds_toArray, List.set_cons_zero, List.set_cons_succ]
            have l15 : Lie ((w1.alloc (.cells #[.int .u8 (IntKind.u8.wrap 2), .int .u8 (IntKind.u8.wrap vm)] 5)).drew) w1.heap.size [.int .u8 (IntKind.u8.wrap 2), .int .u8 (IntKind.u8.wrap vm)] := (Lie.new w1 #[.int .u8 (IntKind.u8.wrap 2), .int .u8 (IntKind.u8.wrap vm)] 5).later ((Below.refl _ _).drew)
            have bA := ((Below.refl _ w1).alloc (Nat.le_refl _) (.cells #[.int .u8 (IntKind.u8.wrap 2), .int .u8 (IntKind.u8.wrap vm)] 5)).drew
            generalize (w1.alloc (.cells #[.int .u8 (IntKind.u8.wrap 2), .int .u8 (IntKind.u8.wrap vm)] 5)).drew = wA at *
            refine wpAnyH_ready (rs := [7]) (by kernel_rfl) (by simp) ?_
            refine AllReadyH.cons (o := rkO7) rfl (fun K hK => ?_) AllReadyH.nil
            try simp only [rkO7]
            go_simp
            go_wp2_with (go_at_call 31; refine (WD _).mono ?_; rintro e q7 ⟨y7, rfl, oy7, bz7⟩; have b7 : Below w1.heap.size w1 q7 := below_trans bA bz7; obtain ⟨g7, k7, rfl, hs7⟩ := Lie.own oy7 nl; have ow7 := ho1.later b7; have bq7 := box1.later b7; have l15b := l15.later bz7)
            refine hK.out _ _ ?_ (fun hHeld => ?_)
            · ((try dsimp only); exact KP.out _ b7)
            clear hK K
            try simp only [Act.put, List.setIfInBounds_toArray, List.set_cons_zero, List.set_cons_succ]
            refine wpAnyH_ready (rs := [8]) (by kernel_rfl) (by simp) ?_
            refine AllReadyH.cons (o := rkO8) rfl (fun K hK => ?_) AllReadyH.nil
            have sz7 := (b7).size
            refine step_append_lies _ (by rfl) _ _ _ (by rfl) w.heap.size 5 i0 _ 1 1 Tryz.underlying23 hi hz0 hz1 hz2 rfl (by omega) _ (D1.length) (bv D1) (by rfl) ow7 ⟨g7, 0, none⟩ N1.length k7 (bv N1) (by rfl) (by simp [bv]) hs7.2 (bv_cell _) (by omega) (by unfold maxLen; omega) (by omega) (by omega) q7.heap.size rfl ?_
            intro g8 c8 w8 hown8 hgr8 hat8 hlt8
            have bq8 := bq7.kept ow7 hgr8
            have ho8 := own_append hown8
            have bel8 : Below w.heap.size w w8 := (bel1.trans ((b7).mono (by omega))).grown hgr8 (by omega) (fun k hk => (World.ownsRow.lt ow7 k hk).1)
            have s8 := bel8.size
            have l15c := l15b.grown hgr8 (fun e => by have := (World.ownsRow.lt ho1 _ e.symm).2; omega)
            refine hK.out _ _ ?_ (fun hHeld => ?_)
            · ((try dsimp only); exact KB.out _ bq8)
            clear hK K
            try simp only [rkO8, Act.put, List.setIfInBounds_toArray, List.set_cons_zero, List.set_cons_succ]
            refine wpAnyH_ready (rs := [16]) (by kernel_rfl) (by simp) ?_
            refine AllReadyH.cons (o := rkO16) rfl (fun K hK => ?_) AllReadyH.nil
            refine step_append_lies _ (by rfl) _ _ _ (by rfl) w.heap.size 5 i0 _ 1 1 Tryz.underlying23 hi hz0 hz1 hz2 rfl (by omega) _ (D1.length + N1.length) (bv D1 ++ bv N1) (by rfl) (own_raw ho8) ⟨w1.heap.size, 0, none⟩ 2 2 [.int .u8 (IntKind.u8.wrap 2), .int .u8 (IntKind.u8.wrap vm)] (by rfl) (by simp) l15c.2 (fun x hx => by simp at hx; rcases hx with rfl | rfl <;> rfl) (by omega) (by unfold maxLen; omega) (by omega) (by omega) w8.heap.size rfl ?_
            intro g16 c16 w16 hown16 hgr16 hat16 hlt16
            have bq16 := bq8.kept ho8 hgr16
            have bel16 : Below w.heap.size w w16 := (bel8).grown hgr16 (by omega) (fun k hk => (World.ownsRow.lt ho8 k hk).1)
            have ho16 := own_end HKM.out hown16
            refine hK.out _ _ ?_ (fun hHeld => ?_)
            · ((try dsimp only); exact KB.out _ bq16)
            clear hK K
            try simp only [rkO16, Act.put, List.setIfInBounds_toArray, List.set_cons_zero, List.set_cons_succ]
            refine wpAnyH_take (i := 17) (oi := rkO17) (v := ?_) rfl (by kernel_rfl) (by kernel_rfl) (by kernel_rfl) (fun _ _ _ h => h) (Or.inl ⟨by rfl, ?_⟩) (by assumption) ?_
            rotate_left
            · (intro W hSw; (try dsimp only at hSw); try simp only [rkO17]; first | (go_simp; done) | (go_simp; with_reducible rfl))
            try simp only [rkO17, Act.put, List.setIfInBounds_toArray, List.set_cons_zero, List.set_cons_succ]
            refine wpAnyH_done (by kernel_rfl) ?_ _
            clear hown16 hgr16 KP KB
            go_wp2
            go_roundw
            case rel => exact ⟨k + 1, by go_num, by omega, by rw [HD.out, HV.out, ← HD1.out]; exact ho16, bel16⟩
            case measure => simp [intOf]; omega
        ·
          try simp only [rkO15]
          go_simp
          refine hK.out _ _ ?_ (fun hHeld => ?_)
          · ((try dsimp only); first | exact KP.out _ (((Below.refl _ w1).alloc (Nat.le_refl _) (.cells #[.int .u8 (IntKind.u8.wrap 2), .int .u8 (IntKind.u8.wrap vm)] 5)).drew) | exact KP.out _ ((Below.refl _ w1).drew.alloc (Nat.le_refl _) (.cells #[.int .u8 (IntKind.u8.wrap 2), .int .u8 (IntKind.u8.wrap vm)] 5)))
          clear hK K
          try simp only [Act.put, List.setIfInBounds_toArray, List.set_cons_zero, List.set_cons_succ]
          have l15 : Lie ((w1.alloc (.cells #[.int .u8 (IntKind.u8.wrap 2), .int .u8 (IntKind.u8.wrap vm)] 5)).drew) w1.heap.size [.int .u8 (IntKind.u8.wrap 2), .int .u8 (IntKind.u8.wrap vm)] := (Lie.new w1 #[.int .u8 (IntKind.u8.wrap 2), .int .u8 (IntKind.u8.wrap vm)] 5).later ((Below.refl _ _).drew)
          have bA := ((Below.refl _ w1).alloc (Nat.le_refl _) (.cells #[.int .u8 (IntKind.u8.wrap 2), .int .u8 (IntKind.u8.wrap vm)] 5)).drew
          generalize (w1.alloc (.cells #[.int .u8 (IntKind.u8.wrap 2), .int .u8 (IntKind.u8.wrap vm)] 5)).drew = wA at *
          refine wpAnyH_ready (rs := [6]) (by kernel_rfl) (by simp) ?_
          refine AllReadyH.cons (o := rkO6) rfl (fun K hK => ?_) AllReadyH.nil
          try simp only [rkO6]
          go_simp
          go_wp2_with (go_at_call 32; refine (PW _).mono ?_; rintro e q6 ⟨rfl, rfl⟩)
          refine hK.out _ _ ?_ (fun hHeld => ?_)
          · ((try dsimp only); exact KP.out _ bA)
          clear hK K
          try simp only [Act.put, List.setIfInBounds_toArray, List.set_cons_zero, List.set_cons_succ]
          refine wpAnyH_ready (rs := [7]) (by kernel_rfl) (by simp) ?_
          refine AllReadyH.cons (o := rkO7) rfl (fun K hK => ?_) AllReadyH.nil
          try simp only [rkO7]
          go_simp
          go_wp2_with (go_at_call 31; refine (WD _).mono ?_; rintro e q7 ⟨y7, rfl, oy7, bz7⟩; have b7 : Below w1.heap.size w1 q7 := below_trans bA bz7; obtain ⟨g7, k7, rfl, hs7⟩ := Lie.own oy7 nl; have ow7 := ho1.later b7; have bq7 := box1.later b7; have l15b := l15.later bz7)
          refine hK.out _ _ ?_ (fun hHeld => ?_)
          · ((try dsimp only); exact KP.out _ b7)
          clear hK K
          try simp only [Act.put, List.setIfInBounds_toArray, List.set_cons_zero, List.set_cons_succ]
          refine wpAnyH_ready (rs := [8]) (by kernel_rfl) (by simp) ?_
          refine AllReadyH.cons (o := rkO8) rfl (fun K hK => ?_) AllReadyH.nil
          have sz7 := (b7).size
          refine step_append_lies _ (by rfl) _ _ _ (by rfl) w.heap.size 5 i0 _ 1 1 Tryz.underlying23 hi hz0 hz1 hz2 rfl (by omega) _ (D1.length) (bv D1) (by rfl) ow7 ⟨g7, 0, none⟩ N1.length k7 (bv N1) (by rfl) (by simp [bv]) hs7.2 (bv_cell _) (by omega) (by unfold maxLen; omega) (by omega) (by omega) q7.heap.size rfl ?_
          intro g8 c8 w8 hown8 hgr8 hat8 hlt8
          have bq8 := bq7.kept ow7 hgr8
          have ho8 := own_append hown8
          have bel8 : Below w.heap.size w w8 := (bel1.trans ((b7).mono (by omega))).grown hgr8 (by omega) (fun k hk => (World.ownsRow.lt ow7 k hk).1)
          have s8 := bel8.size
          have l15c := l15b.grown hgr8 (fun e => by have := (World.ownsRow.lt ho1 _ e.symm).2; omega)
          refine hK.out _ _ ?_ (fun hHeld => ?_)
          · ((try dsimp only); exact KB.out _ bq8)
          clear hK K
          try simp only [rkO8, Act.put, List.setIfInBounds_toArray, List.set_cons_zero, List.set_cons_succ]
          refine wpAnyH_ready (rs := [16]) (by kernel_rfl) (by simp) ?_
          refine AllReadyH.cons (o := rkO16) rfl (fun K hK => ?_) AllReadyH.nil
          refine step_append_lies _ (by rfl) _ _ _ (by rfl) w.heap.size 5 i0 _ 1 1 Tryz.underlying23 hi hz0 hz1 hz2 rfl (by omega) _ (D1.length + N1.length) (bv D1 ++ bv N1) (by rfl) (own_raw ho8) ⟨w1.heap.size, 0, none⟩ 2 2 [.int .u8 (IntKind.u8.wrap 2), .int .u8 (IntKind.u8.wrap vm)] (by rfl) (by simp) l15c.2 (fun x hx => by simp at hx; rcases hx with rfl | rfl <;> rfl) (by omega) (by unfold maxLen; omega) (by omega) (by omega) w8.heap.size rfl ?_
          intro g16 c16 w16 hown16 hgr16 hat16 hlt16
          have bq16 := bq8.kept ho8 hgr16
          have bel16 : Below w.heap.size w w16 := (bel8).grown hgr16 (by omega) (fun k hk => (World.ownsRow.lt ho8 k hk).1)
          have ho16 := own_end HKM.out hown16
          refine hK.out _ _ ?_ (fun hHeld => ?_)
          · ((try dsimp only); exact KB.out _ bq16)
          clear hK K
          try simp only [rkO16, Act.put, List.setIfInBounds_toArray, List.set_cons_zero, List.set_cons_succ]
          refine wpAnyH_take (i := 17) (oi := rkO17) (v := ?_) rfl (by kernel_rfl) (by kernel_rfl) (by kernel_rfl) (fun _ _ _ h => h) (Or.inl ⟨by rfl, ?_⟩) (by assumption) ?_
          rotate_left
          · (intro W hSw; (try dsimp only at hSw); try simp only [rkO17]; first | (go_simp; done) | (go_simp; with_reducible rfl))
          try simp only [rkO17, Act.put, List.setIfInBounds_toArray, List.set_cons_zero, List.set_cons_succ]
          refine wpAnyH_done (by kernel_rfl) ?_ _
          clear hown16 hgr16 KP KB
          go_wp2
          go_roundw
          case rel => exact ⟨k + 1, by go_num, by omega, by rw [HD.out, HV.out, ← HD1.out]; exact ho16, bel16⟩
          case measure => simp [intOf]; omega

      · have boxA := Box.new wr 3 0 0 vb
        have ownA : Own (wr.alloc (.cells #[.int .i64 3, .int .i64 0, .int .i64 0, .string ⟨vb.toArray⟩] 47)) w.heap.size u4 D := World.ownsRow.alloc ho _
        have belA : Below w.heap.size w (wr.alloc (.cells #[.int .i64 3, .int .i64 0, .int .i64 0, .string ⟨vb.toArray⟩] 47)) := hB.alloc (by omega) _
        have szA := belA.size
        have CL := fun W => class_any 3 W
        rw [show clsK 3 = 3 by decide] at CL
        go_upto_region 10 with fail
        generalize hWA : wr.alloc (.cells #[.int .i64 3, .int .i64 0, .int .i64 0, .string ⟨vb.toArray⟩] 47) = wA at *
        clear hWA c0 c1 c2 c3
        obtain ⟨c0, c1, c2, c3⟩ := boxA.at4
        simp only at c0 c1 c2 c3
        go_wp2_with fail
        refine (CL _).mono ?_
        rintro e wq ⟨rfl, rfl⟩
        clear CL
        go_wp2_with (at_builtin; refine wpList_append_own _ rfl _ _ 23 rfl w.heap.size 5 i0 (.int .u8 0) 1 1 Tryz.underlying23 hi hz0 hz1 hz2 rfl (by decide) _ _ _ rfl (World.ownsRow.alloc ownA _) ⟨wA.heap.size, 0, none⟩ 1 1 [.int .u8 3] rfl rfl (cell_one_new _ _ _) (one_cell _ _) (by unfold maxLen; omega) (by omega) (by simp; omega) ?_)
        intro v1 w1 hown1 hgrow1 _
        have box1 := (Box.later boxA ((Below.refl _ _).alloc (Nat.le_refl _) _)).kept (World.ownsRow.alloc ownA _) hgrow1
        have bel1 : Below w.heap.size w w1 := ((belA.alloc (by omega) _).grown hgrow1 (by simp; omega) (fun k hk => (World.ownsRow.lt ownA k hk).1))
        have ho1 := own_push (b := 3) hown1
        have sz1 := bel1.size
        obtain ⟨D1, hD1⟩ : ∃ D1, D1 = D ++ [3] := ⟨_, rfl⟩
        have HD1 : Hid (D1 = D ++ [3]) := hD1
        have hl1 : D1.length ≤ 40001 := by rw [hD1]; simp; omega
        rw [← hD1] at ho1
        clear hD1
        clear hown1 hgrow1 c0 c1 c2 c3 ownA belA boxA
        obtain ⟨c0, c1, c2, c3⟩ := box1.at4
        simp only at c0 c1 c2 c3
        have hs8 : (⟨vb.toArray⟩ : ByteArray).data.toList = vb := by simp
        generalize wr.heap.size = p at *
        generalize hss : (⟨vb.toArray⟩ : ByteArray) = s at *
        have HSS : Hid ((⟨vb.toArray⟩ : ByteArray) = s) := hss
        clear hss
        have hsz : vb.length = s.size := by rw [← hs8]; rfl
        have gs : s.size ≤ 256 := by omega
        have HS : Hid (s.data.toList = vb) := hs8
        clear hs8 sB hB ho
        go_wp2
        go_loopw [4, 7] (fun v r wt => ∃ j : Nat, j ≤ s.size ∧ r = .int .i64 (j : Int) ∧ Own wt w.heap.size v (D1 ++ esc (vb.take j)) ∧ Below w.heap.size w wt ∧ Hid (Box wt p ⟨3, 0, 0, vb⟩)) (fun _ r _ => s.size - (intOf r).toNat)
        case atStart => exact ⟨0, Nat.zero_le _, rfl, by simpa [esc] using ho1, bel1, box1⟩
        case round =>
          obtain ⟨j, hj, rfl, ho, hB, hX⟩ := hrel
          have sB := hB.size
          have hel := esc_len (vb.take j)
          have htl : (vb.take j).length = j := by simp; omega
          obtain ⟨E, hE⟩ : ∃ E, E = D1 ++ esc (vb.take j) := ⟨_, rfl⟩
          have hEl : E.length ≤ 1000600 := by rw [hE]; simp; omega
          rw [← hE] at ho
          clear c0 c1 c2 c3
          obtain ⟨c0, c1, c2, c3⟩ := hX.out.at4
          simp only at c0 c1 c2 c3
          rw [HSS.out] at c3
          by_cases hlt2 : j < s.size
          · have j0 : (0 : Int) ≤ (j : Int) := by omega
            have j1 : (j : Int) < (s.size : Int) := by omega
            have het := esc_take vb j (by omega)
            obtain ⟨c, hc0⟩ : ∃ c, c = vb[j]'(by omega) := ⟨_, rfl⟩
            rw [← hc0] at het
            have hc : ∀ h, s[j]'h = c := fun h => by rw [hc0]; have := HS.out; subst this; rfl
            have FIRST : ∀ v1 w1, w1.ownsRow w.heap.size 5 1 v1 (E.length + 1) (bv E ++ [Value.int .u8 (c.toNat : Int)]) → (wr.alloc (.cells #[.int .u8 (c.toNat : Int)] 5)).grownBy w1 u4.ownBlock → Below w.heap.size w w1 ∧ Own w1 w.heap.size v1 (E ++ [c]) ∧ Box w1 p ⟨3, 0, 0, vb⟩ := by
              intro v1 w1 hown1 hgrow1
              exact ⟨((hB.alloc (by omega) _).grown hgrow1 (by simp; omega) (fun k hk => (World.ownsRow.lt ho k hk).1)), own_push hown1, (Box.later hX.out ((Below.refl _ _).alloc (Nat.le_refl _) _)).kept (World.ownsRow.alloc ho _) hgrow1⟩
            by_cases hz : c = 0
            · have HT : Hid (D1 ++ esc (vb.take (j + 1)) = E ++ [0] ++ [255]) := by
                show _ = _
                rw [het, if_pos hz, hE]; simp
              subst hz
              clear het hc0 hE hel htl hsz
              go_wp2_with (at_builtin; refine wpList_append_own _ rfl _ _ 23 rfl w.heap.size 5 i0 (.int .u8 0) 1 1 Tryz.underlying23 hi hz0 hz1 hz2 rfl (by decide) _ _ _ rfl (World.ownsRow.alloc ho _) ⟨wr.heap.size, 0, none⟩ 1 1 [.int .u8 0] rfl rfl (cell_one_new _ _ _) (one_cell _ _) (by unfold maxLen; omega) (by omega) (by simp; omega) ?_)
              intro v1 w1 hown1 hgrow1 _
              obtain ⟨hB1, hO, X1⟩ := FIRST v1 w1 hown1 hgrow1
              have s1 := hB1.size
              have hl1 : (E ++ [0]).length ≤ 1000601 := by simp; omega
              clear hown1 hgrow1 ho hB FIRST c0 c1 c2 c3
              obtain ⟨c0, c1, c2, c3⟩ := X1.at4
              simp only at c0 c1 c2 c3
              rw [HSS.out] at c3
              go_wp2_with (at_builtin; refine wpList_append_own _ rfl _ _ 23 rfl w.heap.size 5 i0 (.int .u8 0) 1 1 Tryz.underlying23 hi hz0 hz1 hz2 rfl (by decide) _ _ _ rfl (World.ownsRow.alloc hO _) ⟨w1.heap.size, 0, none⟩ 1 1 [.int .u8 255] rfl rfl (cell_one_new _ _ _) (one_cell _ _) (by unfold maxLen; omega) (by omega) (by simp; omega) ?_)
              intro v2 w2 hown2 hgrow2 _
              have hB2 : Below w.heap.size w w2 := ((hB1.alloc (by omega) _).grown hgrow2 (by simp; omega) (fun k hk => (World.ownsRow.lt hO k hk).1))
              have X2 := (Box.later X1 ((Below.refl _ _).alloc (Nat.le_refl _) _)).kept (World.ownsRow.alloc hO _) hgrow2
              have hO2 := own_push (b := 255) hown2
              clear hown2 hgrow2 hO hB1
              go_wp2
              go_roundw
              case rel => exact ⟨j + 1, by omega, by go_num, by rw [HT.out]; exact hO2, hB2, X2⟩
              case measure => simp [intOf]; omega
            · have hz' : ((c.toNat : Int) == 0) = false := by
                have : c.toNat ≠ 0 := fun h => hz (UInt8.toNat_inj.1 h)
                rw [beq_eq_false_iff_ne]; omega
              have HT : Hid (D1 ++ esc (vb.take (j + 1)) = E ++ [c]) := by
                show _ = _
                rw [het, if_neg hz, hE]; simp
              clear het hc0 hE hel htl hsz hz
              go_wp2_with (at_builtin; refine wpList_append_own _ rfl _ _ 23 rfl w.heap.size 5 i0 (.int .u8 0) 1 1 Tryz.underlying23 hi hz0 hz1 hz2 rfl (by decide) _ _ _ rfl (World.ownsRow.alloc ho _) ⟨wr.heap.size, 0, none⟩ 1 1 [.int .u8 (c.toNat : Int)] rfl rfl (cell_one_new _ _ _) (one_cell _ _) (by unfold maxLen; omega) (by omega) (by simp; omega) ?_)
              intro v1 w1 hown1 hgrow1 _
              obtain ⟨hB1, hO, X1⟩ := FIRST v1 w1 hown1 hgrow1
              clear hown1 hgrow1 ho hB FIRST c0 c1 c2 c3
              obtain ⟨c0, c1, c2, c3⟩ := X1.at4
              simp only at c0 c1 c2 c3
              rw [HSS.out] at c3
              go_wp2
              go_roundw
              case rel => exact ⟨j + 1, by omega, by go_num, by rw [HT.out]; exact hO, hB1, X1⟩
              case measure => simp [intOf]; omega
          · have j1 : ¬ (j : Int) < (s.size : Int) := by omega
            have htk : vb.take j = vb := List.take_of_length_le (by omega)
            rw [htk] at hE
            have HT : Hid (D ++ (3 :: (esc vb ++ [0, 1])) = E ++ [0, 1]) := by
              show _ = _
              rw [hE, HD1.out]; simp
            clear htk hE hel htl hsz
            go_wp2_with (at_builtin; refine wpList_append_own _ rfl _ _ 23 rfl w.heap.size 5 i0 (.int .u8 0) 1 1 Tryz.underlying23 hi hz0 hz1 hz2 rfl (by decide) _ _ _ rfl (World.ownsRow.alloc ho _) ⟨wr.heap.size, 0, none⟩ 2 2 [.int .u8 0, .int .u8 1] rfl rfl (cell_two_new _ _ _ _) (fun x hx => by simp at hx; rcases hx with rfl | rfl <;> rfl) (by unfold maxLen; omega) (by omega) (by simp; omega) ?_)
            intro v1 w1 hown1 hgrow1 _
            have hB1 : Below w.heap.size w w1 := ((hB.alloc (by omega) _).grown hgrow1 (by simp; omega) (fun k hk => (World.ownsRow.lt ho k hk).1))
            have hO := own_two (b := 0) (c := 1) hown1
            clear hown1 hgrow1 ho hB
            go_wp2
            go_roundw
            case rel => exact ⟨k + 1, by go_num, by omega, by rw [HD.out, show vkey ⟨3, 0, 0, vb⟩ = 3 :: (esc vb ++ [0, 1]) by simp [vkey], HT.out]; exact hO, hB1⟩
            case measure => simp [intOf]; omega
      · have boxA := Box.new wr 4 vn 0 []
        have ownA : Own (wr.alloc (.cells #[.int .i64 4, .int .i64 vn, .int .i64 0, .string ⟨#[]⟩] 47)) w.heap.size u4 D := World.ownsRow.alloc ho _
        have belA : Below w.heap.size w (wr.alloc (.cells #[.int .i64 4, .int .i64 vn, .int .i64 0, .string ⟨#[]⟩] 47)) := hB.alloc (by omega) _
        have szA := belA.size
        have CL := fun W => class_any 4 W
        rw [show clsK 4 = 4 by decide] at CL
        go_upto_region 10 with fail
        generalize hWA : wr.alloc (.cells #[.int .i64 4, .int .i64 vn, .int .i64 0, .string ⟨#[]⟩] 47) = wA at *
        clear hWA c0 c1 c2 c3
        obtain ⟨c0, c1, c2, c3⟩ := boxA.at4
        simp only at c0 c1 c2 c3
        go_wp2_with fail
        refine (CL _).mono ?_
        rintro e wq ⟨rfl, rfl⟩
        clear CL
        go_wp2_with (at_builtin; refine wpList_append_own _ rfl _ _ 23 rfl w.heap.size 5 i0 (.int .u8 0) 1 1 Tryz.underlying23 hi hz0 hz1 hz2 rfl (by decide) _ _ _ rfl (World.ownsRow.alloc ownA _) ⟨wA.heap.size, 0, none⟩ 1 1 [.int .u8 4] rfl rfl (cell_one_new _ _ _) (one_cell _ _) (by unfold maxLen; omega) (by omega) (by simp; omega) ?_)
        intro v1 w1 hown1 hgrow1 _
        have box1 := (Box.later boxA ((Below.refl _ _).alloc (Nat.le_refl _) _)).kept (World.ownsRow.alloc ownA _) hgrow1
        have bel1 : Below w.heap.size w w1 := ((belA.alloc (by omega) _).grown hgrow1 (by simp; omega) (fun k hk => (World.ownsRow.lt ownA k hk).1))
        have ho1 := own_push (b := 4) hown1
        have sz1 := bel1.size
        obtain ⟨D1, hD1⟩ : ∃ D1, D1 = D ++ [4] := ⟨_, rfl⟩
        have HD1 : Hid (D1 = D ++ [4]) := hD1
        have hl1 : D1.length ≤ 40001 := by rw [hD1]; simp; omega
        rw [← hD1] at ho1
        clear hD1
        clear hown1 hgrow1 c0 c1 c2 c3 ownA belA boxA
        obtain ⟨c0, c1, c2, c3⟩ := box1.at4
        simp only at c0 c1 c2 c3
        have HBy : Hid (vn = ((UInt8.ofNat vn.toNat).toNat : Int)) := by
          show _ = _
          have : vn = 0 ∨ vn = 1 := by omega
          rcases this with rfl | rfl <;> rfl
        have hcv : IntKind.u8.wrap vn = vn := by rw [IntKind.wrap_u8]; omega
        go_wp2_with (at_builtin; refine wpList_append_own _ rfl _ _ 23 rfl w.heap.size 5 i0 (.int .u8 0) 1 1 Tryz.underlying23 hi hz0 hz1 hz2 rfl (by decide) _ _ _ rfl (World.ownsRow.alloc ho1 _) ⟨w1.heap.size, 0, none⟩ 1 1 [.int .u8 vn] rfl rfl (cell_one_new _ _ _) (one_cell _ _) (by unfold maxLen; omega) (by omega) (by simp; omega) ?_)
        intro v2 w2 hown2 hgrow2 _
        have bel2 : Below w.heap.size w w2 := ((bel1.alloc (by omega) _).grown hgrow2 (by simp; omega) (fun k hk => (World.ownsRow.lt ho1 k hk).1))
        have ho2 := own_push (b := UInt8.ofNat vn.toNat) (by rw [← HBy.out]; exact hown2)
        clear hown2 hgrow2
        go_wp2
        go_roundw
        case rel => exact ⟨k + 1, by go_num, by omega, by rw [HD.out]; have := HD1.out; subst this; simpa [vkey] using ho2, bel2⟩
        case measure => simp [intOf]; omega
      · have boxA := Box.new wr 5 vn vm []
        have ownA : Own (wr.alloc (.cells #[.int .i64 5, .int .i64 vn, .int .i64 vm, .string ⟨#[]⟩] 47)) w.heap.size u4 D := World.ownsRow.alloc ho _
        have belA : Below w.heap.size w (wr.alloc (.cells #[.int .i64 5, .int .i64 vn, .int .i64 vm, .string ⟨#[]⟩] 47)) := hB.alloc (by omega) _
        have szA := belA.size
        have CL := fun W => class_any 5 W
        rw [show clsK 5 = 5 by decide] at CL
        go_upto_region 10 with fail
        generalize hWA : wr.alloc (.cells #[.int .i64 5, .int .i64 vn, .int .i64 vm, .string ⟨#[]⟩] 47) = wA at *
        clear hWA c0 c1 c2 c3
        obtain ⟨c0, c1, c2, c3⟩ := boxA.at4
        simp only at c0 c1 c2 c3
        go_wp2_with fail
        refine (CL _).mono ?_
        rintro e wq ⟨rfl, rfl⟩
        clear CL
        go_wp2_with (at_builtin; refine wpList_append_own _ rfl _ _ 23 rfl w.heap.size 5 i0 (.int .u8 0) 1 1 Tryz.underlying23 hi hz0 hz1 hz2 rfl (by decide) _ _ _ rfl (World.ownsRow.alloc ownA _) ⟨wA.heap.size, 0, none⟩ 1 1 [.int .u8 5] rfl rfl (cell_one_new _ _ _) (one_cell _ _) (by unfold maxLen; omega) (by omega) (by simp; omega) ?_)
        intro v1 w1 hown1 hgrow1 _
        have box1 := (Box.later boxA ((Below.refl _ _).alloc (Nat.le_refl _) _)).kept (World.ownsRow.alloc ownA _) hgrow1
        have bel1 : Below w.heap.size w w1 := ((belA.alloc (by omega) _).grown hgrow1 (by simp; omega) (fun k hk => (World.ownsRow.lt ownA k hk).1))
        have ho1 := own_push (b := 5) hown1
        have sz1 := bel1.size
        obtain ⟨D1, hD1⟩ : ∃ D1, D1 = D ++ [5] := ⟨_, rfl⟩
        have HD1 : Hid (D1 = D ++ [5]) := hD1
        have hl1 : D1.length ≤ 40001 := by rw [hD1]; simp; omega
        rw [← hD1] at ho1
        clear hD1
        clear hown1 hgrow1 c0 c1 c2 c3 ownA belA boxA
        obtain ⟨c0, c1, c2, c3⟩ := box1.at4
        simp only at c0 c1 c2 c3
        have Cn := fun W => four_any vn W g0 g1
        have Cm := fun W => four_any vm W g2 g3
        have nl2 : 0 < (bigE 4 (vn + 2 ^ 31).toNat).length := by rw [bigE_len]; omega
        have nl3 : 0 < (bigE 4 (vm + 2 ^ 31).toNat).length := by rw [bigE_len]; omega
        have nl2' : (bigE 4 (vn + 2 ^ 31).toNat).length ≤ 10 := by rw [bigE_len]; omega
        have nl3' : (bigE 4 (vm + 2 ^ 31).toNat).length ≤ 10 := by rw [bigE_len]; omega
        have HV : Hid (D ++ vkey ⟨5, vn, vm, []⟩ = D ++ [5] ++ (bigE 4 (vn + 2 ^ 31).toNat ++ bigE 4 (vm + 2 ^ 31).toNat)) := by show _ = _; simp [vkey]
        generalize bigE 4 (vn + 2 ^ 31).toNat = N1 at *
        generalize bigE 4 (vm + 2 ^ 31).toNat = N2 at *
        have s1 := bel1.size
        go_upto_region 26 with fail
        go_region_held3 (fun W => W.cell? ⟨wr.heap.size, 1, none⟩ = some (.int .i64 vn) ∧ W.cell? ⟨wr.heap.size, 2, none⟩ = some (.int .i64 vm))
          (first | go_keep | (refine ⟨?_, ?_⟩ <;> assumption))
          ((first
            | (go_at_call_of 33 (Value.int IntKind.i64 vn); refine (Cn _).mono ?_; rintro e q2 ⟨y2, rfl, oy2, bz2⟩; have by2 : Below w1.heap.size w1 q2 := below_trans (by first | exact Below.refl _ w1 | exact (Below.refl _ w1).drew) bz2; obtain ⟨g2, k2, rfl, hs2⟩ := own_src oy2 nl2; have sz2 := by2.size; have bq2 := box1.later by2; have ow2 := ho1.later by2; obtain ⟨e0, e1, e2, e3⟩ := bq2.at4; simp only [Nat.zero_add] at e0 e1 e2 e3)
            | (go_at_call_of 33 (Value.int IntKind.i64 vm); refine (Cm _).mono ?_; rintro e q4 ⟨y4, rfl, oy4, bz4⟩; have by4 : Below w3.heap.size w3 q4 := below_trans (by first | exact Below.refl _ w3 | exact (Below.refl _ w3).drew) bz4; obtain ⟨g4, k4, rfl, hs4⟩ := own_src oy4 nl3; have sz4 := by4.size; have bq4 := bq3.later by4; have ow4 := own_raw (ho3.later by4); obtain ⟨e0, e1, e2, e3⟩ := bq4.at4; simp only [Nat.zero_add] at e0 e1 e2 e3)
            | (refine step_append_lies _ (by rfl) _ _ _ (by rfl) w.heap.size 5 i0 _ 1 1 Tryz.underlying23 hi hz0 hz1 hz2 rfl (by omega) _ (D1.length + N1.length) (bv D1 ++ bv N1) (by rfl) ow4 ⟨g4, 0, none⟩ N2.length k4 (bv N2) (by rfl) (by simp [bv]) hs4 (bv_cell _) (by omega) (by unfold maxLen; omega) (by omega) (by omega) q4.heap.size rfl ?_; intro gg5 cap5 w5 hown5 hgr5 hat5 hlt5; have bq5 := bq4.kept (own_back ow4) hgr5; obtain ⟨e0, e1, e2, e3⟩ := bq5.at4; simp only [Nat.zero_add] at e0 e1 e2 e3)
            | (refine step_append_lies _ (by rfl) _ _ _ (by rfl) w.heap.size 5 i0 _ 1 1 Tryz.underlying23 hi hz0 hz1 hz2 rfl (by omega) _ (D1.length) (bv D1) (by rfl) ow2 ⟨g2, 0, none⟩ N1.length k2 (bv N1) (by rfl) (by simp [bv]) hs2 (bv_cell _) (by omega) (by unfold maxLen; omega) (by omega) (by omega) q2.heap.size rfl ?_; intro gg3 cap3 w3 hown3 hgr3 hat3 hlt3; have bq3 := bq2.kept ow2 hgr3; have ho3 := own_append hown3; have bb3 := (World.ownsRow.lt hown3 gg3 rfl).1; obtain ⟨e0, e1, e2, e3⟩ := bq3.at4; simp only [Nat.zero_add] at e0 e1 e2 e3)))
        have bel2 : Below w.heap.size w q2 := bel1.trans (by2.mono (by omega))
        have bel3 : Below w.heap.size w w3 := bel2.grown hgr3 (by omega) (fun k hk => (World.ownsRow.lt ow2 k hk).1)
        have bel4 : Below w.heap.size w q4 := bel3.trans (by4.mono (by omega))
        have bel5 : Below w.heap.size w w5 := bel4.grown hgr5 (by omega) (fun k hk => (World.ownsRow.lt ow4 k hk).1)
        have ho5 := own_three hown5
        clear hown5 hgr5 hown3 hgr3
        go_wp2
        go_roundw
        case rel => exact ⟨k + 1, by go_num, by omega, by rw [HD.out, HV.out, ← HD1.out]; exact ho5, bel5⟩
        case measure => simp [intOf]; omega
    · have hlt' : ¬ (k : Int) < (n : Int) := by omega
      have hkn : k = n := by omega
      have e1 : l.take k = l := List.take_of_length_le (by have := HN.out; omega)
      rw [e1] at ho
      have hML := HM.out k (by omega)
      rw [e1] at hML
      clear e1
      have hl2 : (many vkey l).length ≤ 33280 := hML
      obtain ⟨Y, hY⟩ : ∃ Y, Y = many vkey l := ⟨_, rfl⟩
      have HY : Hid (Y = many vkey l) := hY
      rw [← hY] at ho hl2
      clear hY hML hv
      go_wp2_with (at_builtin; refine wpList_append_own _ rfl _ _ 23 rfl w.heap.size 5 i0 (.int .u8 0) 1 1 Tryz.underlying23 hi hz0 hz1 hz2 rfl (by decide) _ _ _ rfl (World.ownsRow.alloc ho _) ⟨wr.heap.size, 0, none⟩ 1 1 [.int .u8 0] rfl rfl (cell_one_new _ _ _) (one_cell _ _) (by unfold maxLen; omega) (by omega) (by simp; omega) ?_)
      intro v1 w2 hown1 hgrow1 _
      have hB1 : Below w.heap.size w w2 := ((hB.alloc (by omega) _).grown hgrow1 (by simp; omega) (fun k hk => (World.ownsRow.lt ho k hk).1))
      have hO := own_push (b := 0) hown1
      obtain ⟨E, hEE⟩ : ∃ E, E = Y ++ [0] := ⟨_, rfl⟩
      have HEE : Hid (E = Y ++ [0]) := hEE
      rw [← hEE] at hO
      clear hown1 hgrow1 ho hB hEE
      obtain ⟨ao2, cap2, rfl, hr, _⟩ := hO.rd
      have hcv := run_string_of 23 9 5 Tryz.underlying23 Tryz.underlying5 Tryz.underlying9 hr
      clear hr hO
      go_wp2
      go_ret2
      refine ⟨?_, hB1⟩
      rw [show rkey l = E by rw [HEE.out, HY.out]; rfl]
      rfl
end Go.Proofs.YtafmchgncahafaaGreatDoor.By
