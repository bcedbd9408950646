/-
  The reader of expressions: put.
-/
import Derived.Test.YtclhmmgdhagloaaGreatDoorERdr2
import Derived.Deep.AppendLies
namespace Go.Proofs.YtclhmmgdhagloaaGreatDoor
open Go.RowKit Go.Shelf
attribute [local go_sem] cell?_more frozen?_more setCell_more more_lt more_more more_drew more_drewN setCell_drewN alloc_drewN

/-- A node more, if there are not too many. -/
def putN (acc : List Nd) (x : Nd) : List Nd := if acc.length ≤ 256 then acc ++ [x] else acc
theorem ncells_snoc (x : List Nd) (t : Nd) : ncells (x ++ [t]) = ncells x ++ (ncs t).toList := by
  simp [ncells]
theorem one_nd (x : Nd) : ∀ u ∈ (ncs x).toList, u.oneCell' = true := by
  intro u hu
  simp at hu
  rcases hu with rfl | rfl | rfl | rfl | rfl | rfl | rfl | rfl <;> rfl
theorem infoNd : (Tryz.prog.info? 44).map (fun i => (i.zero, i.size, i.bytes)) = some (some (.agg #[.int .i64 0, .string ⟨#[]⟩, .string ⟨#[]⟩, .int .i64 0, .int .i64 0, .int .i64 0, .string ⟨#[]⟩, .int .i64 0]), 8, 88) := by kernel_rfl
theorem Nowns.push {w : World} {base n : Nat} {v : Value} {acc : List Nd} {x : Nd} (h : w.ownsRow base 44 8 v n (ncells acc ++ (ncs x).toList)) (hn : n = acc.length + 1) : Nowns w base v (acc ++ [x]) := by
  unfold Nowns
  rw [ncells_snoc, List.length_append]
  subst hn
  exact h
/-- The row of nodes is another one. -/
theorem rb_nodes {w : World} {p : Nat} {ao : Option Addr} {n cap : Nat} {k : Int} {y : Ti} {nv : Value} {o : Int} (h : Rb w p ao n cap k y nv o) (nv' : Value) : Rb (w.setCell ⟨p, 9, none⟩ nv') p ao n cap k y nv' o := by
  have := h.set 9 nv'
  simp only [List.setIfInBounds_toArray, List.set_cons_zero, List.set_cons_succ] at this
  exact this
theorem rb_open {w : World} {p : Nat} {ao : Option Addr} {n cap : Nat} {k : Int} {y : Ti} {nv : Value} {o : Int} (h : Rb w p ao n cap k y nv o) (o' : Int) : Rb (w.setCell ⟨p, 10, none⟩ (.int .i64 o')) p ao n cap k y nv o' := by
  have := h.set 10 (.int .i64 o')
  simp only [List.setIfInBounds_toArray, List.set_cons_zero, List.set_cons_succ] at this
  exact this
/-- How a step of the reader goes: all else stays; the row of nodes stays, or is a new one. -/
def Goes (p : Nat) (w w' : World) (nv nv' : Value) : Prop := Fr w w' p nv.ownBlock ∧ ∀ g, nv'.ownBlock = some g → nv.ownBlock = some g ∨ w.heap.size ≤ g
theorem Goes.refl (p : Nat) (w : World) (nv : Value) : Goes p w w nv nv := ⟨Fr.refl _ _ _, fun _ h => .inl h⟩
theorem Goes.of_fr {p : Nat} {w w' : World} (h : Fr w w' p none) (nv : Value) : Goes p w w' nv nv := ⟨⟨h.os, h.tape, h.output, h.size, fun k hk hp _ => h.block k hk hp (by simp)⟩, fun _ h => .inl h⟩
theorem Goes.trans {p : Nat} {w w1 w2 : World} {nv n1 n2 : Value} (h : Goes p w w1 nv n1) (k : Goes p w1 w2 n1 n2) : Goes p w w2 nv n2 := by
  refine ⟨h.1.trans k.1 h.2, fun g hg => ?_⟩
  rcases k.2 g hg with e | e
  · exact h.2 g e
  · exact .inr (Nat.le_trans h.1.size e)

theorem Nowns.shape {w : World} {base : Nat} {v : Value} {x : List Nd} (h : Nowns w base v x) : ∃ ao cap, v = .slice ao x.length cap := by
  obtain ⟨h1, h2⟩ := h
  rcases h2 with ⟨rfl, hn⟩ | ⟨g, cap, cur, rfl, _⟩
  · exact ⟨none, 0, by rw [hn]⟩
  · exact ⟨_, cap, rfl⟩

/-- What an append to the nodes leaves of the reader and of the box of the node. -/
theorem put_grown {w w3 : World} {B p n cap m : Nat} {ao na : Option Addr} {nc : Nat} {k o : Int} {y : Ti} {acc : List Nd} {x : Nd}
    (hr : Rb w p ao n cap k y (.slice na acc.length nc) o) (ho : Nowns w B (.slice na acc.length nc) acc) (hm : acc.length = m)
    (hg : ((w.alloc (.cells (ncs x) 44)).alloc (.cells (ncs x) 44)).drew.grownBy w3 (Value.slice na m nc).ownBlock) :
    Fr w w3 p (Value.slice na m nc).ownBlock ∧ Cbox w3 p (rcs ao n cap k y (.slice na m nc) o) 114 ∧ Cbox w3 w.heap.size (ncs x) 44 := by
  subst hm
  have hrow : ∀ g, (Value.slice na acc.length nc).ownBlock = some g → g < w.heap.size ∧ g ≠ p := by
    intro g h
    refine ⟨(World.ownsRow.lt ho g h).2, fun e => ?_⟩
    subst e
    obtain ⟨_, h2⟩ := ho
    rcases h2 with ⟨h2, _⟩ | ⟨g', cap', cur, e1, _, hg', _⟩
    · rw [h2] at h; cases h
    · rw [e1] at h
      have : g' = g := by injection h
      subst this
      have hr' : w.heap[g']? = some (.cells (rcs ao n cap k y (.slice na acc.length nc) o) 114 (0, 0)) := hr
      rw [hg'] at hr'
      have : (44 : Nat) = 114 := by injection hr' with hr'; injection hr'
      cases this
  have hblk : ∀ j, j < w.heap.size → (Value.slice na acc.length nc).ownBlock ≠ some j → w3.heap[j]? = w.heap[j]? := by
    intro j hj hne
    rw [hg.block j (by simp; omega) (fun e => hne e.symm)]
    have := ((Below.refl w.heap.size w).alloc (Nat.le_refl _) (.cells (ncs x) 44)).alloc (by simp) (.cells (ncs x) 44)
    exact this.block j hj
  refine ⟨⟨hg.os, hg.tape, hg.output, by have := hg.size; simp at this; omega, fun j hj _ hne => hblk j hj hne⟩, ?_, ?_⟩
  · have hlp : p < w.heap.size := Cbox.lt hr
    show w3.heap[p]? = _
    rw [hblk p hlp (fun e => (hrow p e).2 rfl)]
    exact hr
  · show w3.heap[w.heap.size]? = _
    rw [hg.block w.heap.size (by simp; omega) (fun e => by have := (hrow _ e.symm).1; omega)]
    have h := (Cbox.new w (ncs x) 44).later ((Below.refl _ _).alloc (Nat.le_refl _) (.cells (ncs x) 44))
    exact h

/-- The reader with a node more. -/
theorem put_end {w0 w w3 : World} {ao : Option Addr} {ts : List Ti} {cap p k o m : Nat} {na : Option Addr} {nc gg gc : Nat} {acc A : List Nd} {x : Nd}
    (S : Stt w0 ao ts cap p w k (.slice na acc.length nc) acc o) (hm : acc.length = m) (hA : A = acc ++ [x]) (hle : m ≤ 256)
    (g3 : Fr w w3 p (Value.slice na m nc).ownBlock) (hc : Cbox w3 p (rcs ao ts.length cap (k : Int) (nxt ts k) (.slice na m nc) (o : Int)) 114)
    (ho : w3.ownsRow w0.heap.size 44 8 (.slice (some ⟨gg, 0, none⟩) (m + 1) gc) (m + 1) (ncells acc ++ (ncs x).toList)) (hat : (Value.slice na m nc).ownBlock = some gg ∨ gg = w.heap.size + 2) :
    Stt w0 ao ts cap p (w3.setCell ⟨p, 9, none⟩ (.slice (some ⟨gg, 0, none⟩) (m + 1) gc)) k (.slice (some ⟨gg, 0, none⟩) (m + 1) gc) A o ∧ Goes p w (w3.setCell ⟨p, 9, none⟩ (.slice (some ⟨gg, 0, none⟩) (m + 1) gc)) (.slice na m nc) (.slice (some ⟨gg, 0, none⟩) (m + 1) gc) := by
  subst hm; subst hA
  have hn := Nowns.push ho rfl
  have g4 := Fr.set w3 p 9 (.slice (some ⟨gg, 0, none⟩) (acc.length + 1) gc) none
  have g : Fr w (w3.setCell ⟨p, 9, none⟩ (.slice (some ⟨gg, 0, none⟩) (acc.length + 1) gc)) p (Value.slice na acc.length nc).ownBlock := g3.trans g4 (fun k e => by cases e)
  have hrow : ∀ q, (Value.slice na acc.length nc).ownBlock = some q → w0.heap.size ≤ q := fun q h => (World.ownsRow.lt S.own q h).1
  refine ⟨⟨g.below S.low S.low.size S.hp hrow, S.hp, rb_nodes hc _, hn.fr hc g4, S.kl, by simp; omega, S.deep⟩, g, fun q h => ?_⟩
  have : gg = q := by injection h
  subst this
  rcases hat with h | h
  · exact .inl h
  · exact .inr (by omega)

set_option maxRecDepth 20000 in
set_option maxHeartbeats 4000000 in
theorem put_any (w0 : World) (p : Nat) (ao : Option Addr) (ts : List Ti) (cap k : Nat) (o : Nat) (nv : Value) (acc : List Nd) (x : Nd) (w : World) (S : Stt w0 ao ts cap p w k nv acc o) :
    Calls Tryz.prog 198 #[.pointer (some ⟨p, 0, none⟩), ndv x] w fun e w' => e = .returned (.tuple #[]) ∧ ∃ nv', Stt w0 ao ts cap p w' k nv' (putN acc x) o ∧ Goes p w w' nv nv' := by
  obtain ⟨i0, hi, hz0, hz1, hz2⟩ := info_parts infoNd
  have hl := S.rb.lt
  have c9 := S.rb.at 9
  have f9 := S.rb.free 9
  obtain ⟨na, nc, rfl⟩ := S.own.shape
  have HS : Hid (Stt w0 ao ts cap p w k (.slice na acc.length nc) acc o) := S
  obtain ⟨A, hA⟩ : ∃ A, A = putN acc x := ⟨_, rfl⟩
  rw [← hA]
  unfold putN at hA
  have HA : Hid (A = if acc.length ≤ 256 then acc ++ [x] else acc) := hA
  have hfew := S.few
  clear hA S
  obtain ⟨m, hm⟩ : ∃ m, acc.length = m := ⟨_, rfl⟩
  have HM : Hid (acc.length = m) := hm
  rw [hm] at hfew
  obtain ⟨xo, xt, xn, xv, xa⟩ := x
  by_cases hle : m ≤ 256
  case neg =>
    have hle' : ¬ (m : Int) ≤ 256 := by omega
    rw [hm] at c9 ⊢
    clear hm
    go_enter Tryz.func198, Tryz.ntmps198
    go_wp2
    go_end0
    have S := HS.out
    have g : Fr w (w.alloc (.cells (ncs ⟨xo, xt, xn, xv, xa⟩) 44)) p none := Fr.of_below ((Below.refl _ w).alloc (Nat.le_refl _) _) p none
    refine ⟨rfl, _, ⟨g.below S.low S.low.size S.hp (fun k e => by cases e), S.hp, ?_, ?_, S.kl, ?_, S.deep⟩, Goes.of_fr g _⟩
    · rw [← HM.out]; exact Cbox.later S.rb ((Below.refl _ w).alloc (Nat.le_refl _) _)
    · rw [HA.out, if_neg (by rw [HM.out]; exact hle), ← HM.out]
      exact S.own.fr S.rb g
    · rw [HA.out, if_neg (by rw [HM.out]; exact hle)]; exact S.few
  · have hle' : (m : Int) ≤ 256 := by omega
    have HO : Hid (Nowns w w0.heap.size (.slice na acc.length nc) acc) := HS.out.own
    rw [hm] at c9 ⊢
    have ho' : w.ownsRow w0.heap.size 44 8 (.slice na m nc) m (ncells acc) := by have := HO.out; unfold Nowns at this; rw [hm] at this; exact this
    have hB0 := HS.out.low.size
    have hpne : ¬ w.heap.size = p := by omega
    have HNEW : Hid (∀ j u, (ncs ⟨xo, xt, xn, xv, xa⟩).toList[j]? = some u → ((w.alloc (.cells (ncs ⟨xo, xt, xn, xv, xa⟩) 44)).drew.alloc (.cells (ncs ⟨xo, xt, xn, xv, xa⟩) 44)).cell? ((⟨w.heap.size + 1, 0, none⟩ : Addr).add j) = some u) := by
      have h := Cbox.new (w.alloc (.cells (ncs ⟨xo, xt, xn, xv, xa⟩) 44)).drew (ncs ⟨xo, xt, xn, xv, xa⟩) 44
      have e : ((w.alloc (.cells (ncs ⟨xo, xt, xn, xv, xa⟩) 44)).drew).heap.size = w.heap.size + 1 := by simp
      rw [e] at h
      exact World.news_of_block h
    clear hm
    go_enter Tryz.func198, Tryz.ntmps198
    go_wp2_with fail
    refine wp_region_held_drew (S := (fun W => W.cell? ⟨w.heap.size, 0, none⟩ = some (.int .i64 xo) ∧ W.cell? ⟨w.heap.size, 1, none⟩ = some (.string ⟨xt.toArray⟩) ∧ W.cell? ⟨w.heap.size, 2, none⟩ = some (.string ⟨xn.toArray⟩) ∧ W.cell? ⟨w.heap.size, 3, none⟩ = some (.int .i64 xv.k) ∧ W.cell? ⟨w.heap.size, 4, none⟩ = some (.int .i64 xv.n) ∧ W.cell? ⟨w.heap.size, 5, none⟩ = some (.int .i64 xv.m) ∧ W.cell? ⟨w.heap.size, 6, none⟩ = some (.string ⟨xv.b.toArray⟩) ∧ W.cell? ⟨w.heap.size, 7, none⟩ = some (.int .i64 xa))) (by kernel_rfl) ?_ (fun hHeld => ?_)
    · ((try dsimp only); (simp (maxDischargeDepth := 12) [go_sem]))
    refine wpAnyH_take (i := 0) (oi := { dst := some 10, op := Op.move (Operand.tmp 0), type := 169, pos := "read.go:109", after := #[], guard := none }) (v := ?_) rfl (by kernel_rfl) (by kernel_rfl) (by kernel_rfl) (fun _ _ _ h => h) (Or.inl ⟨by rfl, ?_⟩) (by assumption) ?_
    rotate_left
    · (intro W hSw; (try dsimp only at hSw); first | (go_simp; done) | (go_simp; with_reducible rfl))
    try simp only [Act.put, List.setIfInBounds_toArray, List.set_cons_zero, List.set_cons_succ]
    refine wpAnyH_take (i := 1) (oi := { dst := some 11, op := Op.move (Operand.tmp 0), type := 169, pos := "read.go:109", after := #[], guard := none }) (v := ?_) rfl (by kernel_rfl) (by kernel_rfl) (by kernel_rfl) (fun _ _ _ h => h) (Or.inl ⟨by rfl, ?_⟩) (by assumption) ?_
    rotate_left
    · (intro W hSw; (try dsimp only at hSw); first | (go_simp; done) | (go_simp; with_reducible rfl))
    try simp only [Act.put, List.setIfInBounds_toArray, List.set_cons_zero, List.set_cons_succ]
    refine wpAnyH_take (i := 2) (oi := { dst := some 12, op := Op.nilCheck (Operand.tmp 11), type := 0, pos := "read.go:109", after := #[{ on := 1, ground := Ground.data }], guard := none }) (v := ?_) rfl (by kernel_rfl) (by kernel_rfl) (by kernel_rfl) (fun _ _ _ h => h) (Or.inl ⟨by rfl, ?_⟩) (by assumption) ?_
    rotate_left
    · (intro W hSw; (try dsimp only at hSw); first | (go_simp; done) | (go_simp; with_reducible rfl))
    try simp only [Act.put, List.setIfInBounds_toArray, List.set_cons_zero, List.set_cons_succ]
    refine wpAnyH_take (i := 3) (oi := { dst := some 13, op := Op.fieldAddr 114 (Operand.tmp 12) 1, type := 0, pos := "read.go:109", after := #[{ on := 2, ground := Ground.data }], guard := none }) (v := ?_) rfl (by kernel_rfl) (by kernel_rfl) (by kernel_rfl) (fun _ _ _ h => h) (Or.inl ⟨by rfl, ?_⟩) (by assumption) ?_
    rotate_left
    · (intro W hSw; (try dsimp only at hSw); first | (go_simp; done) | (go_simp; with_reducible rfl))
    try simp only [Act.put, List.setIfInBounds_toArray, List.set_cons_zero, List.set_cons_succ]
    refine wpAnyH_take (i := 5) (oi := { dst := some 15, op := Op.load 44 (Operand.tmp 3), type := 44, pos := "read.go:109", after := #[], guard := none }) (v := ?_) rfl (by kernel_rfl) (by kernel_rfl) (by kernel_rfl) (fun _ _ _ h => h) (Or.inl ⟨by rfl, ?_⟩) (by assumption) ?_
    rotate_left
    · (intro W hSw; (try dsimp only at hSw); first | (go_simp; done) | (go_simp; with_reducible rfl))
    try simp only [Act.put, List.setIfInBounds_toArray, List.set_cons_zero, List.set_cons_succ]
    refine wpAnyH_ready (rs := [4, 6]) (by kernel_rfl) (by simp) ?_
    refine AllReadyH.cons (o := { dst := some 14, op := Op.load 24 (Operand.tmp 13), type := 24, pos := "read.go:109", after := #[{ on := 3, ground := Ground.data }], guard := none }) rfl (fun K hK => ?_) ?_
    · (
      go_simp
      refine hK.out _ _ ?_ (fun hHeld => ?_)
      · ((try dsimp only); (simp (maxDischargeDepth := 12) [go_sem]))
      clear hK K
      try simp only [Act.put, List.setIfInBounds_toArray, List.set_cons_zero, List.set_cons_succ]
      refine wpAnyH_ready (rs := [6]) (by kernel_rfl) (by simp) ?_
      refine AllReadyH.cons (o := { dst := some 16, op := Op.buildSlice 24 1 #[(0, Operand.tmp 15)], type := 24, pos := "read.go:109", after := #[{ on := 5, ground := Ground.data }], guard := none }) rfl (fun K hK => ?_) AllReadyH.nil
      go_simp
      refine hK.out _ _ ?_ (fun hHeld => ?_)
      · ((try dsimp only); (simp (maxDischargeDepth := 12) [go_sem]))
      clear hK K
      try simp only [Act.put, List.setIfInBounds_toArray, List.set_cons_zero, List.set_cons_succ]
      refine wpAnyH_ready (rs := [7]) (by kernel_rfl) (by simp) ?_
      refine AllReadyH.cons (o := { dst := some 17, op := Op.call { callee := Callee.builtin Builtin.append, args := #[Operand.tmp 14, Operand.tmp 16], argTypes := #[24, 24] }, type := 24, pos := "read.go:109", after := #[{ on := 4, ground := Ground.data }, { on := 6, ground := Ground.data }], guard := none }) rfl (fun K hK => ?_) AllReadyH.nil
      (refine step_append_lies _ (by rfl) _ _ _ (by rfl) w0.heap.size 44 i0 _ 8 88 Tryz.underlying24 hi hz0 hz1 hz2 rfl (by omega) _ m (ncells acc) (by rfl) (World.ownsRow.alloc ((World.ownsRow.alloc ho' _).drew) _) ⟨w.heap.size + 1, 0, none⟩ 1 1 (ncs ⟨xo, xt, xn, xv, xa⟩).toList (by rfl) (by rfl) HNEW.out (one_nd ⟨xo, xt, xn, xv, xa⟩) (by omega) (by unfold maxLen; omega) (by omega) (by simp; omega) (w.heap.size + 2) (by simp) ?_; intro gg gc w3 hown3 hgrow hat hlt3)
      obtain ⟨g3, hc3, hbx⟩ := put_grown HS.out.rb HO.out HM.out hgrow
      have c9c := hc3.at 9
      have f9c := hc3.free 9
      have hl3 := hc3.lt
      refine hK.out _ _ ?_ (fun hHeld => ?_)
      · exact ⟨hbx.at 0, hbx.at 1, hbx.at 2, hbx.at 3, hbx.at 4, hbx.at 5, hbx.at 6, hbx.at 7⟩
      clear hK K
      try simp only [Act.put, List.setIfInBounds_toArray, List.set_cons_zero, List.set_cons_succ]
      refine wpAnyH_take (i := 8) (oi := { dst := some 18, op := Op.nilCheck (Operand.tmp 10), type := 0, pos := "read.go:109", after := #[{ on := 0, ground := Ground.data }, { on := 0, ground := Ground.phase }, { on := 1, ground := Ground.phase }, { on := 2, ground := Ground.phase }, { on := 3, ground := Ground.phase }, { on := 4, ground := Ground.phase }, { on := 5, ground := Ground.phase }, { on := 6, ground := Ground.phase }, { on := 7, ground := Ground.phase }], guard := none }) (v := ?_) rfl (by kernel_rfl) (by kernel_rfl) (by kernel_rfl) (fun _ _ _ h => h) (Or.inl ⟨by rfl, ?_⟩) (by assumption) ?_
      rotate_left
      · (intro W hSw; (try dsimp only at hSw); first | (go_simp; done) | (go_simp; with_reducible rfl))
      try simp only [Act.put, List.setIfInBounds_toArray, List.set_cons_zero, List.set_cons_succ]
      refine wpAnyH_take (i := 9) (oi := { dst := some 19, op := Op.fieldAddr 114 (Operand.tmp 18) 1, type := 0, pos := "read.go:109", after := #[{ on := 8, ground := Ground.data }, { on := 0, ground := Ground.phase }, { on := 1, ground := Ground.phase }, { on := 2, ground := Ground.phase }, { on := 3, ground := Ground.phase }, { on := 4, ground := Ground.phase }, { on := 5, ground := Ground.phase }, { on := 6, ground := Ground.phase }, { on := 7, ground := Ground.phase }], guard := none }) (v := ?_) rfl (by kernel_rfl) (by kernel_rfl) (by kernel_rfl) (fun _ _ _ h => h) (Or.inl ⟨by rfl, ?_⟩) (by assumption) ?_
      rotate_left
      · (intro W hSw; (try dsimp only at hSw); first | (go_simp; done) | (go_simp; with_reducible rfl))
      try simp only [Act.put, List.setIfInBounds_toArray, List.set_cons_zero, List.set_cons_succ]
      refine wpAnyH_ready (rs := [10]) (by kernel_rfl) (by simp) ?_
      refine AllReadyH.cons (o := { dst := none, op := Op.store 24 (Operand.tmp 19) (Operand.tmp 17), type := 0, pos := "read.go:109", after := #[{ on := 9, ground := Ground.data }, { on := 7, ground := Ground.data }, { on := 7, ground := Ground.chain }, { on := 0, ground := Ground.phase }, { on := 1, ground := Ground.phase }, { on := 2, ground := Ground.phase }, { on := 3, ground := Ground.phase }, { on := 4, ground := Ground.phase }, { on := 5, ground := Ground.phase }, { on := 6, ground := Ground.phase }, { on := 7, ground := Ground.phase }], guard := none }) rfl (fun K hK => ?_) AllReadyH.nil
      go_simp
      refine hK.out _ _ ?_ (fun hHeld => ?_)
      · (have y0 := hbx.at 0; have y1 := hbx.at 1; have y2 := hbx.at 2; have y3 := hbx.at 3; have y4 := hbx.at 4; have y5 := hbx.at 5; have y6 := hbx.at 6; have y7 := hbx.at 7; (try dsimp only); simp (maxDischargeDepth := 12) [go_sem, y0, y1, y2, y3, y4, y5, y6, y7])
      clear hK K
      try simp only [Act.put, List.setIfInBounds_toArray, List.set_cons_zero, List.set_cons_succ]
      refine wpAnyH_done (by kernel_rfl) ?_ _
      go_wp2
      go_end0
      exact ⟨rfl, _, put_end HS.out HM.out (by rw [HA.out, if_pos (by rw [HM.out]; exact hle)]) hle g3 hc3 hown3 hat⟩)
    refine AllReadyH.cons (o := { dst := some 16, op := Op.buildSlice 24 1 #[(0, Operand.tmp 15)], type := 24, pos := "read.go:109", after := #[{ on := 5, ground := Ground.data }], guard := none }) rfl (fun K hK => ?_) AllReadyH.nil
    go_simp
    refine hK.out _ _ ?_ (fun hHeld => ?_)
    · ((try dsimp only); (simp (maxDischargeDepth := 12) [go_sem]))
    clear hK K
    try simp only [Act.put, List.setIfInBounds_toArray, List.set_cons_zero, List.set_cons_succ]
    refine wpAnyH_ready (rs := [4]) (by kernel_rfl) (by simp) ?_
    refine AllReadyH.cons (o := { dst := some 14, op := Op.load 24 (Operand.tmp 13), type := 24, pos := "read.go:109", after := #[{ on := 3, ground := Ground.data }], guard := none }) rfl (fun K hK => ?_) AllReadyH.nil
    go_simp
    refine hK.out _ _ ?_ (fun hHeld => ?_)
    · ((try dsimp only); (simp (maxDischargeDepth := 12) [go_sem]))
    clear hK K
    try simp only [Act.put, List.setIfInBounds_toArray, List.set_cons_zero, List.set_cons_succ]
    refine wpAnyH_ready (rs := [7]) (by kernel_rfl) (by simp) ?_
    refine AllReadyH.cons (o := { dst := some 17, op := Op.call { callee := Callee.builtin Builtin.append, args := #[Operand.tmp 14, Operand.tmp 16], argTypes := #[24, 24] }, type := 24, pos := "read.go:109", after := #[{ on := 4, ground := Ground.data }, { on := 6, ground := Ground.data }], guard := none }) rfl (fun K hK => ?_) AllReadyH.nil
    (refine step_append_lies _ (by rfl) _ _ _ (by rfl) w0.heap.size 44 i0 _ 8 88 Tryz.underlying24 hi hz0 hz1 hz2 rfl (by omega) _ m (ncells acc) (by rfl) (World.ownsRow.alloc ((World.ownsRow.alloc ho' _).drew) _) ⟨w.heap.size + 1, 0, none⟩ 1 1 (ncs ⟨xo, xt, xn, xv, xa⟩).toList (by rfl) (by rfl) HNEW.out (one_nd ⟨xo, xt, xn, xv, xa⟩) (by omega) (by unfold maxLen; omega) (by omega) (by simp; omega) (w.heap.size + 2) (by simp) ?_; intro gg gc w3 hown3 hgrow hat hlt3)
    obtain ⟨g3, hc3, hbx⟩ := put_grown HS.out.rb HO.out HM.out hgrow
    have c9c := hc3.at 9
    have f9c := hc3.free 9
    have hl3 := hc3.lt
    refine hK.out _ _ ?_ (fun hHeld => ?_)
    · exact ⟨hbx.at 0, hbx.at 1, hbx.at 2, hbx.at 3, hbx.at 4, hbx.at 5, hbx.at 6, hbx.at 7⟩
    clear hK K
    try simp only [Act.put, List.setIfInBounds_toArray, List.set_cons_zero, List.set_cons_succ]
    refine wpAnyH_take (i := 8) (oi := { dst := some 18, op := Op.nilCheck (Operand.tmp 10), type := 0, pos := "read.go:109", after := #[{ on := 0, ground := Ground.data }, { on := 0, ground := Ground.phase }, { on := 1, ground := Ground.phase }, { on := 2, ground := Ground.phase }, { on := 3, ground := Ground.phase }, { on := 4, ground := Ground.phase }, { on := 5, ground := Ground.phase }, { on := 6, ground := Ground.phase }, { on := 7, ground := Ground.phase }], guard := none }) (v := ?_) rfl (by kernel_rfl) (by kernel_rfl) (by kernel_rfl) (fun _ _ _ h => h) (Or.inl ⟨by rfl, ?_⟩) (by assumption) ?_
    rotate_left
    · (intro W hSw; (try dsimp only at hSw); first | (go_simp; done) | (go_simp; with_reducible rfl))
    try simp only [Act.put, List.setIfInBounds_toArray, List.set_cons_zero, List.set_cons_succ]
    refine wpAnyH_take (i := 9) (oi := { dst := some 19, op := Op.fieldAddr 114 (Operand.tmp 18) 1, type := 0, pos := "read.go:109", after := #[{ on := 8, ground := Ground.data }, { on := 0, ground := Ground.phase }, { on := 1, ground := Ground.phase }, { on := 2, ground := Ground.phase }, { on := 3, ground := Ground.phase }, { on := 4, ground := Ground.phase }, { on := 5, ground := Ground.phase }, { on := 6, ground := Ground.phase }, { on := 7, ground := Ground.phase }], guard := none }) (v := ?_) rfl (by kernel_rfl) (by kernel_rfl) (by kernel_rfl) (fun _ _ _ h => h) (Or.inl ⟨by rfl, ?_⟩) (by assumption) ?_
    rotate_left
    · (intro W hSw; (try dsimp only at hSw); first | (go_simp; done) | (go_simp; with_reducible rfl))
    try simp only [Act.put, List.setIfInBounds_toArray, List.set_cons_zero, List.set_cons_succ]
    refine wpAnyH_ready (rs := [10]) (by kernel_rfl) (by simp) ?_
    refine AllReadyH.cons (o := { dst := none, op := Op.store 24 (Operand.tmp 19) (Operand.tmp 17), type := 0, pos := "read.go:109", after := #[{ on := 9, ground := Ground.data }, { on := 7, ground := Ground.data }, { on := 7, ground := Ground.chain }, { on := 0, ground := Ground.phase }, { on := 1, ground := Ground.phase }, { on := 2, ground := Ground.phase }, { on := 3, ground := Ground.phase }, { on := 4, ground := Ground.phase }, { on := 5, ground := Ground.phase }, { on := 6, ground := Ground.phase }, { on := 7, ground := Ground.phase }], guard := none }) rfl (fun K hK => ?_) AllReadyH.nil
    go_simp
    refine hK.out _ _ ?_ (fun hHeld => ?_)
    · (have y0 := hbx.at 0; have y1 := hbx.at 1; have y2 := hbx.at 2; have y3 := hbx.at 3; have y4 := hbx.at 4; have y5 := hbx.at 5; have y6 := hbx.at 6; have y7 := hbx.at 7; (try dsimp only); simp (maxDischargeDepth := 12) [go_sem, y0, y1, y2, y3, y4, y5, y6, y7])
    clear hK K
    try simp only [Act.put, List.setIfInBounds_toArray, List.set_cons_zero, List.set_cons_succ]
    refine wpAnyH_done (by kernel_rfl) ?_ _
    go_wp2
    go_end0
    exact ⟨rfl, _, put_end HS.out HM.out (by rw [HA.out, if_pos (by rw [HM.out]; exact hle)]) hle g3 hc3 hown3 hat⟩
end Go.Proofs.YtclhmmgdhagloaaGreatDoor
