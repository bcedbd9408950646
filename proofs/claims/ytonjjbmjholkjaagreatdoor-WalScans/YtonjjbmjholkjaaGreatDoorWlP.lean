/-
  The contract of wal.image.cut where the records end.
-/
import Derived.Test.YtonjjbmjholkjaaGreatDoorWlO
namespace Go.Proofs.YtonjjbmjholkjaaGreatDoor
open Go.RowKit Go.Shelf

/-- s[:n], the room behind it kept. -/
theorem Ob.hi {w : World} {ao : Option Addr} {m cap : Nat} {g : Option Nat} {bs : List UInt8} (h : Ob w (.slice ao m cap) g bs) (n : Nat) (hn : n ≤ bs.length) : Ob w (.slice ao n cap) g (bs.take n) := by
  rcases h with ⟨e, rfl, hg⟩ | ⟨b, o, cap', cur, e, h2, h3, h4, h5, h6, h7⟩
  · cases e
    obtain rfl : n = 0 := by simpa using hn
    exact .inl ⟨rfl, rfl, hg⟩
  · cases e
    have hl : (bs.take n).length = n := by simp; omega
    refine .inr ⟨b, o, cap, cur, by rw [hl], h2, h3, by omega, by omega, by omega, fun i hi => ?_⟩
    rw [List.getElem_take]
    exact h7 i (by omega)

theorem run_hi_bytes {w : World} {ao : Option Addr} {m cap n : Nat} (hn : n ≤ cap) (h0 : ao = none → cap = 0) (hs : ∀ a, ao = some a → a.spot = none) : (Instr.slice 22 (.slice ao m cap) none (some (.int .i64 (n : Int))) none).run Tryz.prog w = .ok (.slice ao n cap) w := by
  cases ao with
  | none =>
    obtain rfl := h0 rfl
    obtain rfl : n = 0 := by omega
    simp [Instr.slice, Instr.sliceBounds, Instr.sliceBound, asIntOf, run_underlying Tryz.underlying22]
  | some a =>
    obtain ⟨b, off, spot⟩ := a
    obtain rfl : spot = none := hs _ rfl
    simp [Instr.slice, Instr.sliceBounds, Instr.sliceBound, asIntOf, run_underlying Tryz.underlying22, hn]
    try (intro _; rw [Addr.add_lit]; rfl)

theorem run_hi_ints {w : World} {ao : Option Addr} {m cap n : Nat} (hn : n ≤ cap) (h0 : ao = none → cap = 0) (hs : ∀ a, ao = some a → a.spot = none) : (Instr.slice 68 (.slice ao m cap) none (some (.int .i64 (n : Int))) none).run Tryz.prog w = .ok (.slice ao n cap) w := by
  cases ao with
  | none =>
    obtain rfl := h0 rfl
    obtain rfl : n = 0 := by omega
    simp [Instr.slice, Instr.sliceBounds, Instr.sliceBound, asIntOf, run_underlying Tryz.underlying68]
  | some a =>
    obtain ⟨b, off, spot⟩ := a
    obtain rfl : spot = none := hs _ rfl
    simp [Instr.slice, Instr.sliceBounds, Instr.sliceBound, asIntOf, run_underlying Tryz.underlying68, hn]
    try (intro _; rw [Addr.add_lit]; rfl)

theorem row_take {w : World} {n₀ : Nat} {vs : Value} {L : List Int} (h : w.ownsRow n₀ 3 1 vs L.length (ivs L)) : ∃ a c, vs = .slice a L.length c ∧ L.length ≤ c ∧ (a = none → c = 0) ∧ (∀ x : Addr, a = some x → x.spot = none) ∧ ∀ k, k ≤ L.length → w.ownsRow n₀ 3 1 (.slice a k c) (L.take k).length (ivs (L.take k)) := by
  obtain ⟨h1, h2⟩ := h
  rcases h2 with ⟨rfl, hn⟩ | ⟨g, cap, cur, rfl, hb, hg, hnc, hcm, hcs, htake⟩
  · refine ⟨none, 0, by rw [hn], by omega, fun _ => rfl, fun x e => (by cases e), fun k hk => ?_⟩
    obtain rfl : k = 0 := by omega
    have : L = [] := List.eq_nil_of_length_eq_zero hn
    subst this
    exact World.ownsRow_nil _ _ _ _
  · refine ⟨_, cap, rfl, hnc, fun e => (by cases e), fun x e => (by cases e; rfl), fun k hk => ?_⟩
    have hl : (L.take k).length = k := by simp; omega
    refine ⟨by simp [ivs], .inr ⟨g, cap, cur, by rw [hl], hb, hg, by omega, hcm, hcs, ?_⟩⟩
    rw [hl]
    have : ivs (L.take k) = (ivs L).take k := by simp [ivs, List.map_take]
    rw [this, ← htake, List.take_take]
    congr 1
    omega

set_option maxRecDepth 20000 in
set_option maxHeartbeats 4000000 in
theorem icut_any (n₀ B o : Nat) (T : TypeId) (cs : Array Value) (vb : Value) (gb : Option Nat) (bs : List UInt8) (vs : Value) (L : List Int) (t : Nat) (w : World) (h : Img w n₀ B o T cs vb gb bs vs L t) :
    Calls Tryz.prog 76 #[.pointer (some ⟨B, o, none⟩), .int .i64 (t : Int)] w fun e w' => (∃ v, e = .returned v) ∧ ∃ cs' vb' vs' L', Img w' n₀ B o T cs' vb' gb (bs.take t) vs' L' t ∧ SameBut o cs cs' ∧ vs'.ownBlock = vs.ownBlock ∧ Chg (fun k => k = B) w w' := by
  have hln := h.len
  have hlt := h.lt
  obtain ⟨a1, c1, rfl, hrd, hc1, -⟩ := h.ob.form
  obtain ⟨a2, c2, rfl, hc2, hn2, hs2, htk⟩ := row_take h.st
  have ob' := h.ob.hi t hlt
  have hs1 : ∀ a, a1 = some a → a.spot = none := fun a e => by
    obtain ⟨lb, hlb⟩ : ∃ lb, lb = bs.length := ⟨_, rfl⟩
    have hob := h.ob
    rw [← hlb] at hob
    rcases hob with ⟨e1, -, -⟩ | ⟨b, off, cap', cur, e1, -⟩
    · cases e1; cases e
    · cases e1; cases e; rfl
  have hz1 : a1 = none → c1 = 0 := fun e => (hrd.2.2.2.1 e).2
  have hr1 : ∀ W, (Instr.slice 22 (.slice a1 bs.length c1) none (some (.int .i64 (t : Int))) none).run Tryz.prog W = .ok (.slice a1 t c1) W := fun W => run_hi_bytes (by omega) hz1 hs1
  have hr2 : ∀ W (k : Nat), k ≤ L.length → (Instr.slice 68 (.slice a2 L.length c2) none (some (.int .i64 (k : Int))) none).run Tryz.prog W = .ok (.slice a2 k c2) W := fun W k hk => run_hi_ints (by omega) hn2 hs2
  have CC := fun W (hW : Img W n₀ B o T cs (.slice a1 bs.length c1) gb bs (.slice a2 L.length c2) L t) => count_any n₀ B o T cs _ gb bs _ L t (t : Int) W hW
  have k0 := bl_cell h.blk _ _ h.c0
  have k1 := bl_cell h.blk _ _ h.c1
  have k2 := bl_cell h.blk _ _ h.c2
  have k3 := bl_cell h.blk _ _ h.c3
  have f1 := bl_open h.blk (o + 1)
  have f2 := bl_open h.blk (o + 2)
  have ha : IntKind.i64.wrap (t : Int) = (t : Int) := by rw [IntKind.wrap_i64]; omega
  have mixed : Tryz.prog.follows .mixedOrders = true := by kernel_rfl
  have hd := h.later (Below.refl _ _).drew
  have HH : Hid (Img w n₀ B o T cs (.slice a1 bs.length c1) gb bs (.slice a2 L.length c2) L t) := h
  have HK : Hid ((∀ k, k ≤ L.length → w.ownsRow n₀ 3 1 (.slice a2 k c2) (L.take k).length (ivs (L.take k))) ∧ Ob w (.slice a1 t c1) gb (bs.take t)) := ⟨htk, ob'⟩
  have CD := CC _ hd
  clear h hd htk ob' hrd CC hn2 hs2 hs1 hz1
  go_enter Tryz.func76, Tryz.ntmps76
  go_wp2_with fail
  refine some_way (fun a W => ∃ k : Nat, k ≤ L.length ∧ a = { tmps := #[.pointer (some ⟨B, o, none⟩), .int .i64 (t : Int), undef, undef, .pointer (some ⟨B, o, none⟩), .pointer (some ⟨B, o, none⟩), .pointer (some ⟨B, o, none⟩), .pointer (some ⟨B, o, none⟩), .pointer (some ⟨B, o + 1, none⟩), .slice a1 bs.length c1, .int .i64 (t : Int), .pointer (some ⟨B, o, none⟩), .pointer (some ⟨B, o, none⟩), .pointer (some ⟨B, o, none⟩), .int .i64 0, .int .i64 (t : Int), .slice a1 t c1, .pointer (some ⟨B, o, none⟩), .pointer (some ⟨B, o, none⟩), .pointer (some ⟨B, o + 2, none⟩), .slice a2 L.length c2, .pointer (some ⟨B, o, none⟩), .int .i64 (t : Int), .int .i64 (k : Int), .slice a2 k c2, .pointer (some ⟨B, o, none⟩), .pointer (some ⟨B, o + 1, none⟩), .pointer (some ⟨B, o, none⟩), .pointer (some ⟨B, o + 2, none⟩), undef, undef, undef, undef, undef, undef, undef, undef, undef], defers := [] } ∧ W = (w.drew.setCell ⟨B, o + 1, none⟩ (.slice a1 t c1)).setCell ⟨B, o + 2, none⟩ (.slice a2 k c2)) ?reg ?_
  case reg =>
    refine wp_region_Z (S := fun V : World => V.cell? ⟨B, o, none⟩ = some (.int .i64 0) ∧ V.cell? ⟨B, o + 1, none⟩ = some (.slice a1 bs.length c1) ∧ V.cell? ⟨B, o + 2, none⟩ = some (.slice a2 L.length c2)) (z := (zOf [21, 22, 23, 24, 25, 26] [1, 13, 14, 15, 17, 18, 20])) mixed ?_
    have hHeld : (fun V : World => V.cell? ⟨B, o, none⟩ = some (.int .i64 0) ∧ V.cell? ⟨B, o + 1, none⟩ = some (.slice a1 bs.length c1) ∧ V.cell? ⟨B, o + 2, none⟩ = some (.slice a2 L.length c2)) _ := ⟨k0, k1, k2⟩
    refine wpAnyZ_take (zOf_all _ _) (i := 0) (oi := { dst := some 4, op := Op.move (Operand.tmp 0), type := 93, pos := "image.go:53", after := #[], guard := none }) (v := ?_) rfl (by kernel_rfl) (by kernel_rfl) (by kernel_rfl) (by kernel_rfl) (fun _ _ _ h => h) (Or.inl ⟨by rfl, ?_⟩) hHeld ?_
    rotate_left
    · (intro W hSw; (try dsimp only at hSw); first | (go_simp; done) | (go_simp; with_reducible rfl))
    try simp only [Act.put, List.setIfInBounds_toArray, List.set_cons_zero, List.set_cons_succ]
    refine wpAnyZ_pure (i := 1) (oi := { dst := some 5, op := Op.move (Operand.tmp 0), type := 93, pos := "image.go:53", after := #[{ on := 23, ground := Ground.gcOnly Departure.lateStores }], guard := none }) (v := ?_) rfl (by kernel_rfl) (by kernel_rfl) (by kernel_rfl) (by decide) (fun _ _ _ h => h) (Or.inl ⟨by rfl, ?_⟩) ?_
    rotate_left
    · (intro W; first | (go_simp; done) | (go_simp; with_reducible rfl))
    try simp only [Act.put, List.setIfInBounds_toArray, List.set_cons_zero, List.set_cons_succ]
    refine wpAnyZ_take (zOf_all _ _) (i := 2) (oi := { dst := some 6, op := Op.move (Operand.tmp 0), type := 93, pos := "image.go:53", after := #[], guard := none }) (v := ?_) rfl (by kernel_rfl) (by kernel_rfl) (by kernel_rfl) (by kernel_rfl) (fun _ _ _ h => h) (Or.inl ⟨by rfl, ?_⟩) hHeld ?_
    rotate_left
    · (intro W hSw; (try dsimp only at hSw); first | (go_simp; done) | (go_simp; with_reducible rfl))
    try simp only [Act.put, List.setIfInBounds_toArray, List.set_cons_zero, List.set_cons_succ]
    refine wpAnyZ_take (zOf_all _ _) (i := 3) (oi := { dst := some 7, op := Op.nilCheck (Operand.tmp 6), type := 0, pos := "image.go:53", after := #[{ on := 2, ground := Ground.data }], guard := none }) (v := ?_) rfl (by kernel_rfl) (by kernel_rfl) (by kernel_rfl) (by kernel_rfl) (fun _ _ _ h => h) (Or.inl ⟨by rfl, ?_⟩) hHeld ?_
    rotate_left
    · (intro W hSw; (try dsimp only at hSw); first | (go_simp; done) | (go_simp; with_reducible rfl))
    try simp only [Act.put, List.setIfInBounds_toArray, List.set_cons_zero, List.set_cons_succ]
    refine wpAnyZ_take (zOf_all _ _) (i := 4) (oi := { dst := some 8, op := Op.fieldAddr 70 (Operand.tmp 7) 1, type := 0, pos := "image.go:53", after := #[{ on := 3, ground := Ground.data }], guard := none }) (v := ?_) rfl (by kernel_rfl) (by kernel_rfl) (by kernel_rfl) (by kernel_rfl) (fun _ _ _ h => h) (Or.inl ⟨by rfl, ?_⟩) hHeld ?_
    rotate_left
    · (intro W hSw; (try dsimp only at hSw); first | (go_simp; done) | (go_simp; with_reducible rfl))
    try simp only [Act.put, List.setIfInBounds_toArray, List.set_cons_zero, List.set_cons_succ]
    refine wpAnyZ_take (zOf_all _ _) (i := 5) (oi := { dst := some 9, op := Op.load 22 (Operand.tmp 8), type := 22, pos := "image.go:53", after := #[{ on := 4, ground := Ground.data }], guard := none }) (v := ?_) rfl (by kernel_rfl) (by kernel_rfl) (by kernel_rfl) (by kernel_rfl) (fun _ _ _ h => h) (Or.inl ⟨by rfl, ?_⟩) hHeld ?_
    rotate_left
    · (intro W hSw; (try dsimp only at hSw); first | (go_simp; done) | (go_simp; with_reducible rfl))
    try simp only [Act.put, List.setIfInBounds_toArray, List.set_cons_zero, List.set_cons_succ]
    refine wpAnyZ_take (zOf_all _ _) (i := 6) (oi := { dst := some 10, op := Op.move (Operand.tmp 1), type := 3, pos := "image.go:53", after := #[], guard := none }) (v := ?_) rfl (by kernel_rfl) (by kernel_rfl) (by kernel_rfl) (by kernel_rfl) (fun _ _ _ h => h) (Or.inl ⟨by rfl, ?_⟩) hHeld ?_
    rotate_left
    · (intro W hSw; (try dsimp only at hSw); first | (go_simp; done) | (go_simp; with_reducible rfl))
    try simp only [Act.put, List.setIfInBounds_toArray, List.set_cons_zero, List.set_cons_succ]
    refine wpAnyZ_take (zOf_all _ _) (i := 7) (oi := { dst := some 11, op := Op.move (Operand.tmp 0), type := 93, pos := "image.go:53", after := #[], guard := none }) (v := ?_) rfl (by kernel_rfl) (by kernel_rfl) (by kernel_rfl) (by kernel_rfl) (fun _ _ _ h => h) (Or.inl ⟨by rfl, ?_⟩) hHeld ?_
    rotate_left
    · (intro W hSw; (try dsimp only at hSw); first | (go_simp; done) | (go_simp; with_reducible rfl))
    try simp only [Act.put, List.setIfInBounds_toArray, List.set_cons_zero, List.set_cons_succ]
    refine wpAnyZ_take (zOf_all _ _) (i := 8) (oi := { dst := some 12, op := Op.nilCheck (Operand.tmp 11), type := 0, pos := "image.go:53", after := #[{ on := 7, ground := Ground.data }], guard := none }) (v := ?_) rfl (by kernel_rfl) (by kernel_rfl) (by kernel_rfl) (by kernel_rfl) (fun _ _ _ h => h) (Or.inl ⟨by rfl, ?_⟩) hHeld ?_
    rotate_left
    · (intro W hSw; (try dsimp only at hSw); first | (go_simp; done) | (go_simp; with_reducible rfl))
    try simp only [Act.put, List.setIfInBounds_toArray, List.set_cons_zero, List.set_cons_succ]
    refine wpAnyZ_take (zOf_all _ _) (i := 9) (oi := { dst := some 13, op := Op.fieldAddr 70 (Operand.tmp 12) 0, type := 0, pos := "image.go:53", after := #[{ on := 8, ground := Ground.data }], guard := none }) (v := ?_) rfl (by kernel_rfl) (by kernel_rfl) (by kernel_rfl) (by kernel_rfl) (fun _ _ _ h => h) (Or.inl ⟨by rfl, ?_⟩) hHeld ?_
    rotate_left
    · (intro W hSw; (try dsimp only at hSw); first | (go_simp; done) | (go_simp; with_reducible rfl))
    try simp only [Act.put, List.setIfInBounds_toArray, List.set_cons_zero, List.set_cons_succ]
    refine wpAnyZ_take (zOf_all _ _) (i := 10) (oi := { dst := some 14, op := Op.load 3 (Operand.tmp 13), type := 3, pos := "image.go:53", after := #[{ on := 9, ground := Ground.data }], guard := none }) (v := ?_) rfl (by kernel_rfl) (by kernel_rfl) (by kernel_rfl) (by kernel_rfl) (fun _ _ _ h => h) (Or.inl ⟨by rfl, ?_⟩) hHeld ?_
    rotate_left
    · (intro W hSw; (try dsimp only at hSw); first | (go_simp; done) | (go_simp; with_reducible rfl))
    try simp only [Act.put, List.setIfInBounds_toArray, List.set_cons_zero, List.set_cons_succ]
    refine wpAnyZ_take (zOf_all _ _) (i := 11) (oi := { dst := some 15, op := Op.binOp BinOp.sub 3 (Operand.tmp 10) (Operand.tmp 14) 3, type := 3, pos := "image.go:53", after := #[{ on := 6, ground := Ground.data }, { on := 10, ground := Ground.data }], guard := none }) (v := ?_) rfl (by kernel_rfl) (by kernel_rfl) (by kernel_rfl) (by kernel_rfl) (fun _ _ _ h => h) (Or.inl ⟨by rfl, ?_⟩) hHeld ?_
    rotate_left
    · (intro W hSw; (try dsimp only at hSw); first | (go_simp; done) | (go_simp; with_reducible rfl))
    try simp only [Act.put, List.setIfInBounds_toArray, List.set_cons_zero, List.set_cons_succ]
    refine wpAnyZ_take (zOf_all _ _) (i := 12) (oi := { dst := some 16, op := Op.slice 22 (Operand.tmp 9) none (some (Operand.tmp 15)) none, type := 22, pos := "image.go:53", after := #[{ on := 5, ground := Ground.data }, { on := 11, ground := Ground.data }], guard := none }) (v := ?_) rfl (by kernel_rfl) (by kernel_rfl) (by kernel_rfl) (by kernel_rfl) (fun _ _ _ h => h) (Or.inl ⟨by rfl, ?_⟩) hHeld ?_
    rotate_left
    · (intro W hSw; (try dsimp only at hSw); first | (go_simp; done) | (go_simp; with_reducible rfl))
    try simp only [Act.put, List.setIfInBounds_toArray, List.set_cons_zero, List.set_cons_succ]
    refine wpAnyZ_pure (i := 13) (oi := { dst := some 17, op := Op.move (Operand.tmp 0), type := 93, pos := "image.go:53", after := #[], guard := none }) (v := ?_) rfl (by kernel_rfl) (by kernel_rfl) (by kernel_rfl) (by decide) (fun _ _ _ h => h) (Or.inl ⟨by rfl, ?_⟩) ?_
    rotate_left
    · (intro W; first | (go_simp; done) | (go_simp; with_reducible rfl))
    try simp only [Act.put, List.setIfInBounds_toArray, List.set_cons_zero, List.set_cons_succ]
    refine wpAnyZ_pure (i := 14) (oi := { dst := some 18, op := Op.nilCheck (Operand.tmp 17), type := 0, pos := "image.go:53", after := #[{ on := 13, ground := Ground.data }], guard := none }) (v := ?_) rfl (by kernel_rfl) (by kernel_rfl) (by kernel_rfl) (by decide) (fun _ _ _ h => h) (Or.inl ⟨by rfl, ?_⟩) ?_
    rotate_left
    · (intro W; first | (go_simp; done) | (go_simp; with_reducible rfl))
    try simp only [Act.put, List.setIfInBounds_toArray, List.set_cons_zero, List.set_cons_succ]
    refine wpAnyZ_pure (i := 15) (oi := { dst := some 19, op := Op.fieldAddr 70 (Operand.tmp 18) 2, type := 0, pos := "image.go:53", after := #[{ on := 14, ground := Ground.data }], guard := none }) (v := ?_) rfl (by kernel_rfl) (by kernel_rfl) (by kernel_rfl) (by decide) (fun _ _ _ h => h) (Or.inl ⟨by rfl, ?_⟩) ?_
    rotate_left
    · (intro W; first | (go_simp; done) | (go_simp; with_reducible rfl))
    try simp only [Act.put, List.setIfInBounds_toArray, List.set_cons_zero, List.set_cons_succ]
    refine wpAnyZ_take (zOf_all _ _) (i := 16) (oi := { dst := some 20, op := Op.load 68 (Operand.tmp 19), type := 68, pos := "image.go:53", after := #[{ on := 15, ground := Ground.data }], guard := none }) (v := ?_) rfl (by kernel_rfl) (by kernel_rfl) (by kernel_rfl) (by kernel_rfl) (fun _ _ _ h => h) (Or.inl ⟨by rfl, ?_⟩) hHeld ?_
    rotate_left
    · (intro W hSw; (try dsimp only at hSw); first | (go_simp; done) | (go_simp; with_reducible rfl))
    try simp only [Act.put, List.setIfInBounds_toArray, List.set_cons_zero, List.set_cons_succ]
    refine wpAnyZ_pure (i := 17) (oi := { dst := some 21, op := Op.move (Operand.tmp 0), type := 93, pos := "image.go:53", after := #[], guard := none }) (v := ?_) rfl (by kernel_rfl) (by kernel_rfl) (by kernel_rfl) (by decide) (fun _ _ _ h => h) (Or.inl ⟨by rfl, ?_⟩) ?_
    rotate_left
    · (intro W; first | (go_simp; done) | (go_simp; with_reducible rfl))
    try simp only [Act.put, List.setIfInBounds_toArray, List.set_cons_zero, List.set_cons_succ]
    refine wpAnyZ_pure (i := 18) (oi := { dst := some 22, op := Op.move (Operand.tmp 1), type := 3, pos := "image.go:53", after := #[], guard := none }) (v := ?_) rfl (by kernel_rfl) (by kernel_rfl) (by kernel_rfl) (by decide) (fun _ _ _ h => h) (Or.inl ⟨by rfl, ?_⟩) ?_
    rotate_left
    · (intro W; first | (go_simp; done) | (go_simp; with_reducible rfl))
    try simp only [Act.put, List.setIfInBounds_toArray, List.set_cons_zero, List.set_cons_succ]
    refine wpAnyZ_one (i := 19) (o := { dst := some 23, op := Op.call { callee := Callee.value (Operand.func 86), args := #[Operand.tmp 21, Operand.tmp 22], argTypes := #[93, 3] }, type := 3, pos := "image.go:53", after := #[{ on := 17, ground := Ground.data }, { on := 18, ground := Ground.data }], guard := none }) (by kernel_rfl) rfl (fun K hK => ?_)
    clear hHeld
    go_simp
    go_wp2_with (go_at_call 86; refine CD.mono ?_; rintro e w' ⟨k, rfl, hk, hw⟩; obtain rfl : w.drew = w' := hw; have hr3 := fun W => hr2 W k hk)
    refine hK.out _ _ ⟨fun _ => ?_, fun h => absurd h (by decide)⟩ (fun hH => ?_)
    · (exact ⟨k0, k1, k2⟩)
    clear hK K
    have hHeld := hH.1 (by decide)
    clear hH
    try simp only [Act.put, List.setIfInBounds_toArray, List.set_cons_zero, List.set_cons_succ]
    refine wpAnyZ_pure (i := 20) (oi := { dst := some 24, op := Op.slice 68 (Operand.tmp 20) none (some (Operand.tmp 23)) none, type := 68, pos := "image.go:53", after := #[{ on := 16, ground := Ground.data }, { on := 19, ground := Ground.data }], guard := none }) (v := ?_) rfl (by kernel_rfl) (by kernel_rfl) (by kernel_rfl) (by decide) (fun _ _ _ h => h) (Or.inl ⟨by rfl, ?_⟩) ?_
    rotate_left
    · (intro W; first | (go_simp; done) | (go_simp; with_reducible rfl))
    try simp only [Act.put, List.setIfInBounds_toArray, List.set_cons_zero, List.set_cons_succ]
    refine wpAnyZ_tail (by kernel_rfl) ?_
    clear hHeld
    refine wpAny_take (i := 21) (oi := { dst := some 25, op := Op.nilCheck (Operand.tmp 4), type := 0, pos := "image.go:53", after := #[{ on := 0, ground := Ground.data }, { on := 0, ground := Ground.phase }, { on := 1, ground := Ground.textOnly Departure.lateStores }, { on := 2, ground := Ground.phase }, { on := 3, ground := Ground.phase }, { on := 4, ground := Ground.phase }, { on := 5, ground := Ground.phase }, { on := 6, ground := Ground.phase }, { on := 7, ground := Ground.phase }, { on := 8, ground := Ground.phase }, { on := 9, ground := Ground.phase }, { on := 10, ground := Ground.phase }, { on := 11, ground := Ground.phase }, { on := 12, ground := Ground.phase }, { on := 13, ground := Ground.textOnly Departure.lateStores }, { on := 14, ground := Ground.textOnly Departure.lateStoresUnsure }, { on := 15, ground := Ground.textOnly Departure.lateStoresUnsure }, { on := 16, ground := Ground.phase }, { on := 17, ground := Ground.textOnly Departure.lateStores }, { on := 18, ground := Ground.textOnly Departure.lateStores }, { on := 19, ground := Ground.phase }, { on := 20, ground := Ground.textOnly Departure.lateStoresUnsure }], guard := none }) (v := ?_) rfl (by kernel_rfl) (by kernel_rfl) (by kernel_rfl) (fun _ _ _ h => h) (Or.inl ⟨by rfl, ?_⟩) ?_
    rotate_left
    · (intro W; first | (go_simp; done) | (go_simp; with_reducible rfl))
    try simp only [Act.put, List.setIfInBounds_toArray, List.set_cons_zero, List.set_cons_succ]
    refine wpAny_take (i := 22) (oi := { dst := some 26, op := Op.fieldAddr 70 (Operand.tmp 25) 1, type := 0, pos := "image.go:53", after := #[{ on := 21, ground := Ground.data }, { on := 0, ground := Ground.phase }, { on := 1, ground := Ground.textOnly Departure.lateStores }, { on := 2, ground := Ground.phase }, { on := 3, ground := Ground.phase }, { on := 4, ground := Ground.phase }, { on := 5, ground := Ground.phase }, { on := 6, ground := Ground.phase }, { on := 7, ground := Ground.phase }, { on := 8, ground := Ground.phase }, { on := 9, ground := Ground.phase }, { on := 10, ground := Ground.phase }, { on := 11, ground := Ground.phase }, { on := 12, ground := Ground.phase }, { on := 13, ground := Ground.textOnly Departure.lateStores }, { on := 14, ground := Ground.textOnly Departure.lateStoresUnsure }, { on := 15, ground := Ground.textOnly Departure.lateStoresUnsure }, { on := 16, ground := Ground.phase }, { on := 17, ground := Ground.textOnly Departure.lateStores }, { on := 18, ground := Ground.textOnly Departure.lateStores }, { on := 19, ground := Ground.phase }, { on := 20, ground := Ground.textOnly Departure.lateStoresUnsure }], guard := none }) (v := ?_) rfl (by kernel_rfl) (by kernel_rfl) (by kernel_rfl) (fun _ _ _ h => h) (Or.inl ⟨by rfl, ?_⟩) ?_
    rotate_left
    · (intro W; first | (go_simp; done) | (go_simp; with_reducible rfl))
    try simp only [Act.put, List.setIfInBounds_toArray, List.set_cons_zero, List.set_cons_succ]
    refine wpAny_ready (rs := [23]) (by kernel_rfl) (by simp) ?_
    refine AllReady.cons (o := { dst := none, op := Op.store 22 (Operand.tmp 26) (Operand.tmp 16), type := 0, pos := "image.go:53", after := #[{ on := 22, ground := Ground.data }, { on := 12, ground := Ground.data }, { on := 19, ground := Ground.chain }, { on := 0, ground := Ground.phase }, { on := 1, ground := Ground.textOnly Departure.lateStores }, { on := 2, ground := Ground.phase }, { on := 3, ground := Ground.phase }, { on := 4, ground := Ground.phase }, { on := 5, ground := Ground.phase }, { on := 6, ground := Ground.phase }, { on := 7, ground := Ground.phase }, { on := 8, ground := Ground.phase }, { on := 9, ground := Ground.phase }, { on := 10, ground := Ground.phase }, { on := 11, ground := Ground.phase }, { on := 12, ground := Ground.phase }, { on := 13, ground := Ground.textOnly Departure.lateStores }, { on := 14, ground := Ground.textOnly Departure.lateStoresUnsure }, { on := 15, ground := Ground.textOnly Departure.lateStoresUnsure }, { on := 16, ground := Ground.phase }, { on := 17, ground := Ground.textOnly Departure.lateStores }, { on := 18, ground := Ground.textOnly Departure.lateStores }, { on := 19, ground := Ground.phase }, { on := 20, ground := Ground.textOnly Departure.lateStoresUnsure }], guard := none }) rfl (fun K hK => ?_) AllReady.nil
    go_simp
    refine hK _ _ ?_
    clear hK K
    try simp only [Act.put, List.setIfInBounds_toArray, List.set_cons_zero, List.set_cons_succ]
    refine wpAny_take (i := 24) (oi := { dst := some 27, op := Op.nilCheck (Operand.tmp 5), type := 0, pos := "image.go:53", after := #[{ on := 1, ground := Ground.data }, { on := 0, ground := Ground.phase }, { on := 1, ground := Ground.phase }, { on := 2, ground := Ground.phase }, { on := 3, ground := Ground.phase }, { on := 4, ground := Ground.phase }, { on := 5, ground := Ground.phase }, { on := 6, ground := Ground.phase }, { on := 7, ground := Ground.phase }, { on := 8, ground := Ground.phase }, { on := 9, ground := Ground.phase }, { on := 10, ground := Ground.phase }, { on := 11, ground := Ground.phase }, { on := 12, ground := Ground.phase }, { on := 13, ground := Ground.phase }, { on := 14, ground := Ground.phase }, { on := 15, ground := Ground.phase }, { on := 16, ground := Ground.phase }, { on := 17, ground := Ground.phase }, { on := 18, ground := Ground.phase }, { on := 19, ground := Ground.phase }, { on := 20, ground := Ground.phase }, { on := 21, ground := Ground.phase }, { on := 22, ground := Ground.phase }, { on := 23, ground := Ground.phase }], guard := none }) (v := ?_) rfl (by kernel_rfl) (by kernel_rfl) (by kernel_rfl) (fun _ _ _ h => h) (Or.inl ⟨by rfl, ?_⟩) ?_
    rotate_left
    · (intro W; first | (go_simp; done) | (go_simp; with_reducible rfl))
    try simp only [Act.put, List.setIfInBounds_toArray, List.set_cons_zero, List.set_cons_succ]
    refine wpAny_take (i := 25) (oi := { dst := some 28, op := Op.fieldAddr 70 (Operand.tmp 27) 2, type := 0, pos := "image.go:53", after := #[{ on := 24, ground := Ground.data }, { on := 0, ground := Ground.phase }, { on := 1, ground := Ground.phase }, { on := 2, ground := Ground.phase }, { on := 3, ground := Ground.phase }, { on := 4, ground := Ground.phase }, { on := 5, ground := Ground.phase }, { on := 6, ground := Ground.phase }, { on := 7, ground := Ground.phase }, { on := 8, ground := Ground.phase }, { on := 9, ground := Ground.phase }, { on := 10, ground := Ground.phase }, { on := 11, ground := Ground.phase }, { on := 12, ground := Ground.phase }, { on := 13, ground := Ground.phase }, { on := 14, ground := Ground.phase }, { on := 15, ground := Ground.phase }, { on := 16, ground := Ground.phase }, { on := 17, ground := Ground.phase }, { on := 18, ground := Ground.phase }, { on := 19, ground := Ground.phase }, { on := 20, ground := Ground.phase }, { on := 21, ground := Ground.phase }, { on := 22, ground := Ground.phase }, { on := 23, ground := Ground.phase }], guard := none }) (v := ?_) rfl (by kernel_rfl) (by kernel_rfl) (by kernel_rfl) (fun _ _ _ h => h) (Or.inl ⟨by rfl, ?_⟩) ?_
    rotate_left
    · (intro W; first | (go_simp; done) | (go_simp; with_reducible rfl))
    try simp only [Act.put, List.setIfInBounds_toArray, List.set_cons_zero, List.set_cons_succ]
    refine wpAny_ready (rs := [26]) (by kernel_rfl) (by simp) ?_
    refine AllReady.cons (o := { dst := none, op := Op.store 68 (Operand.tmp 28) (Operand.tmp 24), type := 0, pos := "image.go:53", after := #[{ on := 25, ground := Ground.data }, { on := 20, ground := Ground.data }, { on := 23, ground := Ground.chain }, { on := 0, ground := Ground.phase }, { on := 1, ground := Ground.phase }, { on := 2, ground := Ground.phase }, { on := 3, ground := Ground.phase }, { on := 4, ground := Ground.phase }, { on := 5, ground := Ground.phase }, { on := 6, ground := Ground.phase }, { on := 7, ground := Ground.phase }, { on := 8, ground := Ground.phase }, { on := 9, ground := Ground.phase }, { on := 10, ground := Ground.phase }, { on := 11, ground := Ground.phase }, { on := 12, ground := Ground.phase }, { on := 13, ground := Ground.phase }, { on := 14, ground := Ground.phase }, { on := 15, ground := Ground.phase }, { on := 16, ground := Ground.phase }, { on := 17, ground := Ground.phase }, { on := 18, ground := Ground.phase }, { on := 19, ground := Ground.phase }, { on := 20, ground := Ground.phase }, { on := 21, ground := Ground.phase }, { on := 22, ground := Ground.phase }, { on := 23, ground := Ground.phase }], guard := none }) rfl (fun K hK => ?_) AllReady.nil
    go_simp
    refine hK _ _ ?_
    clear hK K
    try simp only [Act.put, List.setIfInBounds_toArray, List.set_cons_zero, List.set_cons_succ]
    refine wpAny_done (by kernel_rfl) ?_ _
    exact ⟨rfl, k, hk, rfl, rfl⟩
  rintro a W ⟨k, hk, rfl, rfl⟩
  dsimp only
  obtain ⟨W2, hW2⟩ : ∃ W2, W2 = (w.drew.setCell ⟨B, o + 1, none⟩ (.slice a1 t c1)).setCell ⟨B, o + 2, none⟩ (.slice a2 k c2) := ⟨_, rfl⟩
  have hb0 : w.drew.heap[B]? = some (.cells cs T (0, 0)) := HH.out.blk
  have hb1 := bl_set hb0 (o + 1) (.slice a1 t c1)
  have hb2 := bl_set hb1 (o + 2) (.slice a2 k c2)
  rw [← hW2] at hb2 ⊢
  have m3 : W2.cell? ⟨B, o + 3, none⟩ = some (.int .i64 (t : Int)) := bl_cell hb2 _ _ (by rw [Array.getElem?_setIfInBounds_ne (by omega), Array.getElem?_setIfInBounds_ne (by omega)]; exact HH.out.c3)
  have g3 := bl_open hb2 (o + 3)
  have hb3 := bl_set hb2 (o + 3) (.int .i64 (t : Int))
  have hmin : min (t : Int) (t : Int) = (t : Int) := by omega
  have hs1 : o + 1 < cs.size := (Array.getElem?_eq_some_iff.1 HH.out.c1).1
  have hs2 : o + 2 < cs.size := (Array.getElem?_eq_some_iff.1 HH.out.c2).1
  have hs3 : o + 3 < cs.size := (Array.getElem?_eq_some_iff.1 HH.out.c3).1
  have hC : Chg (fun k => k = B) w (W2.setCell ⟨B, o + 3, none⟩ (.int .i64 (t : Int))) := by
    rw [hW2]
    exact (((chg_of_below (S := fun k => k = B) ((Below.refl _ w).drew)).trans (chg_set _ B (o + 1) _) (fun _ _ e => e) (fun _ _ e => e)).trans (chg_set _ B (o + 2) _) (fun _ _ e => e) (fun _ _ e => e)).trans (chg_set _ B (o + 3) _) (fun _ _ e => e) (fun _ _ e => e)
  have hI : Img (W2.setCell ⟨B, o + 3, none⟩ (.int .i64 (t : Int))) n₀ B o T (((cs.setIfInBounds (o + 1) (.slice a1 t c1)).setIfInBounds (o + 2) (.slice a2 k c2)).setIfInBounds (o + 3) (.int .i64 (t : Int))) (.slice a1 t c1) gb (bs.take t) (.slice a2 k c2) (L.take k) t := by
    refine ⟨hb3, ?_, ?_, ?_, by simp [hs3], HK.out.2.kept (fun b e => hC.block b (HK.out.2.lt e) (fun e2 => HH.out.ng e e2)), row_kept (HK.out.1 k hk) (fun b e => ?_), HH.out.hB, HH.out.hg, HH.out.tu, HH.out.ti, by simp; omega, by have := HH.out.ll; simp; omega, by simp; omega⟩
    · rw [Array.getElem?_setIfInBounds_ne (by omega), Array.getElem?_setIfInBounds_ne (by omega), Array.getElem?_setIfInBounds_ne (by omega)]; exact HH.out.c0
    · rw [Array.getElem?_setIfInBounds_ne (by omega), Array.getElem?_setIfInBounds_ne (by omega)]; simp [hs1]
    · rw [Array.getElem?_setIfInBounds_ne (by omega)]; simp [hs2]
    · have hob : (Value.slice a2 L.length c2).ownBlock = some b := by cases a2 <;> exact e
      exact hC.block b (row_own HH.out.st hob).2.1 (HH.out.ns hob).1
  have HF : Hid (_ ∧ _) := And.intro hI hC
  have hsb : Hid (SameBut o cs (((cs.setIfInBounds (o + 1) (.slice a1 t c1)).setIfInBounds (o + 2) (.slice a2 k c2)).setIfInBounds (o + 3) (.int .i64 (t : Int)))) := by
    intro j h1 h2 h3
    rw [Array.getElem?_setIfInBounds_ne (by omega), Array.getElem?_setIfInBounds_ne (by omega), Array.getElem?_setIfInBounds_ne (by omega)]
  clear hI hC hb3 hb2 hb1 hb0 hW2 hs1 hs2 hs3 CD hr1 hr2
  go_wp2
  all_goals
    go_end0
    exact ⟨⟨_, rfl⟩, _, _, _, _, HF.out.1, hsb.out, (by cases a2 <;> rfl), HF.out.2⟩
end Go.Proofs.YtonjjbmjholkjaaGreatDoor
