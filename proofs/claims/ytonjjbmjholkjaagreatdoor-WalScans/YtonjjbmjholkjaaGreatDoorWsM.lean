/-
  The law's same: two rows of entries that tell the same.
-/
import Derived.Test.YtonjjbmjholkjaaGreatDoorWlK
import Derived.Deep.RegionHeld2
namespace Go.Proofs.YtonjjbmjholkjaaGreatDoor
open Go.RowKit Go.Shelf

/-- The cells of the j-th entry, from any base on. -/
theorem ecs_from (base : Int) : ∀ (xs : List Itv) (j : Nat) (h : j < xs.length), (ecs base xs)[j * 2]? = some (.int .i64 (base + ((xs[j].it.off : Nat) : Int))) ∧ (ecs base xs)[j * 2 + 1]? = some (.slice xs[j].ao xs[j].it.inn.length xs[j].cap) := by
  intro xs
  induction xs with
  | nil => intro j h; simp at h
  | cons x xs ih =>
    intro j h
    have e : ecs base (x :: xs) = [.int .i64 (base + x.it.off), .slice x.ao x.it.inn.length x.cap] ++ ecs base xs := by simp [ecs]
    rw [e]
    cases j with
    | zero => simp
    | succ j =>
      have := ih j (by simpa using h)
      rw [show (j + 1) * 2 = j * 2 + 2 by omega, show j * 2 + 2 + 1 = (j * 2 + 1) + 2 by omega]
      rw [List.getElem?_append_right (by simp), List.getElem?_append_right (by simp)]
      simpa using this

/-- What lies at the j-th place of a row. -/
theorem ent_at {W : World} {n₁ : Nat} {e : TypeId} {base : Int} {xs : List Itv} {a : Option Addr} {n c : Nat} (hrow : W.ownsRow n₁ e 2 (.slice a n c) xs.length (ecs base xs)) (hin : Inn W n₁ xs) (j : Nat) (hj : j < xs.length) :
    ∃ g, a = some ⟨g, 0, none⟩ ∧ W.cell? ⟨g, j * 2, none⟩ = some (.int .i64 (base + ((xs[j].it.off : Nat) : Int))) ∧ W.cell? ⟨g, j * 2 + 1, none⟩ = some (.slice xs[j].ao xs[j].it.inn.length xs[j].cap) ∧ Rd W xs[j].ao xs[j].it.inn.length xs[j].cap xs[j].it.inn := by
  obtain ⟨g, rfl⟩ : ∃ g, a = some ⟨g, 0, none⟩ := by
    rcases hrow.2 with ⟨_, h0⟩ | ⟨g, cap, cur, e, _⟩
    · omega
    · cases e; exact ⟨g, rfl⟩
  obtain rfl : n = xs.length := by
    rcases hrow.2 with ⟨q, _⟩ | ⟨g, cap, cur, q, _⟩
    · cases q
    · cases q; rfl
  obtain ⟨e0, e1⟩ := ecs_from base xs j hj
  have c0 := World.ownsRow.cells hrow (g := g) rfl (j * 2) _ e0
  have c1 := World.ownsRow.cells hrow (g := g) rfl (j * 2 + 1) _ e1
  rw [Addr.add_lit, Nat.zero_add] at c0 c1
  obtain ⟨x, y, q, hr, -⟩ := (hin xs[j] (List.getElem_mem _)).rd
  cases q
  exact ⟨g, rfl, c0, c1, hr⟩

set_option maxRecDepth 20000 in
set_option maxHeartbeats 2000000 in
theorem same_any (base : Int) (n₁ n₂ : Nat) (xs ys : List Itv) (v u : Value) (w : World) (hm : xs.map Itv.it = ys.map Itv.it) (hx : w.ownsRow n₁ 59 2 v xs.length (ecs base xs)) (hix : Inn w n₁ xs)
    (hy : w.ownsRow n₂ 65 2 u ys.length (ecs base ys)) (hiy : Inn w n₂ ys) (hl : xs.length ≤ 16777217) :
    Calls Tryz.prog 9 #[v, u] w fun e w' => e = .returned (.bool true) ∧ Below w.heap.size w w' := by
  have hle : xs.length = ys.length := by simpa using congrArg List.length hm
  obtain ⟨a, c, rfl⟩ := row_len hx
  obtain ⟨b, d, rfl⟩ := row_len hy
  have hall : ∀ j, j < xs.length → ∃ ga gb ya yc za zc off y, a = some ⟨ga, 0, none⟩ ∧ b = some ⟨gb, 0, none⟩ ∧ ∀ W, Below w.heap.size w W → Below w.heap.size w W ∧ W.cell? ⟨ga, j * 2, none⟩ = some (.int .i64 off) ∧ W.cell? ⟨ga, j * 2 + 1, none⟩ = some (.slice ya (List.length y) yc) ∧
      W.cell? ⟨gb, j * 2, none⟩ = some (.int .i64 off) ∧ W.cell? ⟨gb, j * 2 + 1, none⟩ = some (.slice za (List.length y) zc) ∧
      (convert 22 9 (.slice ya (List.length y) yc)).run Tryz.prog W = .ok (.string ⟨y.toArray⟩) W ∧ (convert 22 9 (.slice za (List.length y) zc)).run Tryz.prog W = .ok (.string ⟨y.toArray⟩) W := by
    intro j hj
    have hj2 : j < ys.length := by omega
    have hit : xs[j].it = ys[j].it := by
      have h1 : (xs.map Itv.it)[j]? = (ys.map Itv.it)[j]? := by rw [hm]
      simpa [hj, hj2] using h1
    obtain ⟨ga, ha, a0, a1, ra⟩ := ent_at hx hix j hj
    obtain ⟨gb, hb, b0, b1, rb⟩ := ent_at hy hiy j hj2
    rw [← hit] at b0 b1 rb
    refine ⟨ga, gb, _, _, _, _, _, _, ha, hb, fun W hW => ⟨hW, (hW.cell (World.block_lt_of_cell? w _ a0)).trans a0, (hW.cell (World.block_lt_of_cell? w _ a1)).trans a1, (hW.cell (World.block_lt_of_cell? w _ b0)).trans b0, (hW.cell (World.block_lt_of_cell? w _ b1)).trans b1,
      run_string_of (P := Tryz.prog) 22 9 5 Tryz.underlying22 Tryz.underlying5 Tryz.underlying9 (ra.later hW), run_string_of (P := Tryz.prog) 22 9 5 Tryz.underlying22 Tryz.underlying5 Tryz.underlying9 (rb.later hW)⟩⟩
  rw [← hle]
  obtain ⟨n, hn⟩ : ∃ n, n = xs.length := ⟨_, rfl⟩
  rw [← hn] at hall hl ⊢
  have HALL : Hid (∀ j, j < n → ∃ ga gb ya yc za zc off y, a = some ⟨ga, 0, none⟩ ∧ b = some ⟨gb, 0, none⟩ ∧ ∀ W, Below w.heap.size w W → Below w.heap.size w W ∧ W.cell? ⟨ga, j * 2, none⟩ = some (.int .i64 off) ∧ W.cell? ⟨ga, j * 2 + 1, none⟩ = some (.slice ya (List.length y) yc) ∧
      W.cell? ⟨gb, j * 2, none⟩ = some (.int .i64 off) ∧ W.cell? ⟨gb, j * 2 + 1, none⟩ = some (.slice za (List.length y) zc) ∧
      (convert 22 9 (.slice ya (List.length y) yc)).run Tryz.prog W = .ok (.string ⟨y.toArray⟩) W ∧ (convert 22 9 (.slice za (List.length y) zc)).run Tryz.prog W = .ok (.string ⟨y.toArray⟩) W) := hall
  clear hall hm hx hix hy hiy hle hn
  go_enter Tryz.func9, Tryz.ntmps9
  go_wp2_with fail
  go_loopw [5] (fun i wr => ∃ j : Nat, i = .int .i64 (j : Int) ∧ Hid (j ≤ n ∧ Below w.heap.size w wr)) (fun i _ => n - (intOf i).toNat)
  case atStart => exact ⟨0, rfl, Nat.zero_le _, Below.refl _ _⟩
  case round =>
    obtain ⟨j, rfl, hj⟩ := hrel
    by_cases hjn : j < n
    · have hjl : (j : Int) < (n : Int) := by omega
      have hwj : IntKind.i64.wrap ((j : Int) + 1) = ((j + 1 : Nat) : Int) := by rw [IntKind.wrap_i64]; omega
      obtain ⟨ga, gb, ya, yc, za, zc, off, y, rfl, rfl, hc⟩ := HALL.out j hjn
      have HMJ : Hid (∀ z : Int, z = ((j + 1 : Nat) : Int) → n - z.toNat < n - (j : Int).toNat) := fun z hz => by omega
      have hk : Below w.heap.size w wr.drew := hj.out.2.drew
      obtain ⟨TX, hTX⟩ : ∃ TX : ByteArray, TX = ⟨y.toArray⟩ := ⟨_, rfl⟩
      obtain ⟨ny, hny⟩ : ∃ ny, ny = List.length y := ⟨_, rfl⟩
      rw [← hTX, ← hny] at hc
      have HC := hc _ hk
      clear hc hTX hny HALL hk
      go_upto_region 6 with fail
      go_region_held2 (fun W => Below w.heap.size w W ∧ W.cell? ⟨ga, j * 2, none⟩ = some (.int .i64 off) ∧ W.cell? ⟨ga, j * 2 + 1, none⟩ = some (.slice ya ny yc) ∧ W.cell? ⟨gb, j * 2, none⟩ = some (.int .i64 off) ∧ W.cell? ⟨gb, j * 2 + 1, none⟩ = some (.slice za ny zc) ∧
          (convert 22 9 (.slice ya ny yc)).run Tryz.prog W = .ok (.string TX) W ∧ (convert 22 9 (.slice za ny zc)).run Tryz.prog W = .ok (.string TX) W)
        (first | exact HC | assumption) (fail)
      all_goals
        go_wp2
        go_roundw
        case rel => exact ⟨j + 1, by first | rfl | rw [hwj], by omega, HC.1⟩
        case measure => exact HMJ.out _ (by first | rfl | omega)
    · have hjl : ¬ (j : Int) < (n : Int) := by omega
      go_wp2
      go_ret
      exact ⟨rfl, hj.out.2⟩
end Go.Proofs.YtonjjbmjholkjaaGreatDoor
