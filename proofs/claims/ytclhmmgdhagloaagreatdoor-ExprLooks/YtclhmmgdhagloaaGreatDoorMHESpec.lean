/-
  The reader of expressions: its state, and the methods pass and took.
  The reader of expressions: put.
  How tokens are read into nodes, as a function: with no program in it but what a node, a token and a sign are.
-/
import Derived.Test.YtclhmmgdhagloaaGreatDoorERdr
import Derived.Deep.AppendLies
namespace Go.Proofs.YtclhmmgdhagloaaGreatDoor
open Go.RowKit Go.Shelf
attribute [local go_sem] cell?_more frozen?_more setCell_more more_lt more_more more_drew more_drewN setCell_drewN alloc_drewN

def ncells (x : List Nd) : List Value := x.flatMap fun t => (ncs t).toList
/-- Nodes that a call has made lie behind a slice. -/
abbrev Nowns (w : World) (base : Nat) (v : Value) (x : List Nd) : Prop := w.ownsRow base 44 8 v x.length (ncells x)

/-- A reader at work. -/
structure Stt (w0 : World) (ao : Option Addr) (ts : List Ti) (cap p : Nat) (w : World) (k : Nat) (nv : Value) (acc : List Nd) (o : Nat) : Prop where
  low : Below w0.heap.size w0 w
  hp : w0.heap.size ≤ p
  rb : Rb w p ao ts.length cap (k : Int) (nxt ts k) nv (o : Int)
  own : Nowns w w0.heap.size nv acc
  kl : k ≤ ts.length
  few : acc.length ≤ 257
  deep : o ≤ 64

theorem Nowns.fr {w w' : World} {B p : Nat} {v : Value} {x : List Nd} {cs : Array Value} (h : Nowns w B v x) (hc : Cbox w p cs 114) (hf : Fr w w' p none) : Nowns w' B v x := by
  obtain ⟨h1, h2⟩ := h
  refine ⟨h1, ?_⟩
  rcases h2 with h2 | ⟨g, cap, cur, rfl, hb, hg, hr⟩
  · exact .inl h2
  · refine .inr ⟨g, cap, cur, rfl, hb, ?_, hr⟩
    have hlt : g < w.heap.size := by
      rcases Nat.lt_or_ge g w.heap.size with h | h
      · exact h
      · rw [Array.getElem?_eq_none h] at hg; cases hg
    rw [hf.block g hlt ?_ (by simp)]
    · exact hg
    · intro e
      subst e
      unfold Cbox at hc
      rw [hg] at hc
      have : (44 : Nat) = 114 := by injection hc with hc; injection hc
      cases this

theorem nxt_lt {ts : List Ti} {k : Nat} (h : (nxt ts k).t ≠ []) : k < ts.length := by
  rcases Nat.lt_or_ge k ts.length with h' | h'
  · exact h'
  · unfold nxt at h
    rw [List.getElem?_eq_none h'] at h
    exact absurd rfl h

/-- The place is moved on. -/
theorem rb_size {w : World} {p : Nat} {ao : Option Addr} {n cap : Nat} {k : Int} {y : Ti} {nv : Value} {o : Int} (h : Rb w p ao n cap k y nv o) (k' : Int) : Rb (w.setCell ⟨p, 1, none⟩ (.int .i64 k')) p ao n cap k' y nv o := by
  have := h.set 1 (.int .i64 k')
  simp only [List.setIfInBounds_toArray, List.set_cons_zero, List.set_cons_succ] at this
  exact this

set_option maxRecDepth 20000 in
set_option maxHeartbeats 4000000 in
theorem pass_any (w0 : World) (p : Nat) (ao : Option Addr) (ts : List Ti) (cap k : Nat) (o : Int) (y : Ti) (nv : Value) (w : World) (E : Env w0 ao ts) (hB : Below w0.heap.size w0 w) (hp : w0.heap.size ≤ p) (hk : k < ts.length) (h : Rb w p ao ts.length cap (k : Int) y nv o) :
    Calls Tryz.prog 274 #[.pointer (some ⟨p, 0, none⟩)] w fun e w' => e = .returned (.tuple #[]) ∧ Rb w' p ao ts.length cap ((k + 1 : Nat) : Int) (nxt ts (k + 1)) nv o ∧ Fr w w' p none := by
  have hl := h.lt
  have c1 := h.at 1
  have f1 := h.free 1
  have hfew := E.few
  have h1 := rb_size h ((k + 1 : Nat) : Int)
  have g1 := Fr.set w p 1 (.int .i64 ((k + 1 : Nat) : Int)) none
  have e1 : ((k + 1 : Nat) : Int) = (k : Int) + 1 := by omega
  rw [e1] at h1 g1
  have L := look_any w0 p ao ts cap (k + 1) o y nv (w.setCell ⟨p, 1, none⟩ (.int .i64 ((k : Int) + 1))) E (g1.below hB hB.size hp (fun k e => by cases e)) hp (by rw [e1]; exact h1)
  rw [e1] at L ⊢
  clear E h1
  have hkl : (k : Int) < 4096 := by omega
  generalize nxt ts (k + 1) = X at *
  generalize ts.length = n at *
  go_enter Tryz.func274, Tryz.ntmps274
  go_wp2_with (go_at_call 73; refine L.mono ?_; rintro e w2 ⟨rfl, h2, g2⟩)
  go_end0
  exact ⟨rfl, h2, g1.trans g2 fun _ h => .inl h⟩

theorem took_any (w0 : World) (p : Nat) (ao : Option Addr) (ts : List Ti) (cap k : Nat) (o : Nat) (nv : Value) (acc : List Nd) (s : List UInt8) (w : World) (E : Env w0 ao ts) (hs : s ≠ []) (S : Stt w0 ao ts cap p w k nv acc o) :
    Calls Tryz.prog 249 #[.pointer (some ⟨p, 0, none⟩), .string ⟨s.toArray⟩] w fun e w' => e = .returned (.bool ((nxt ts k).t == s)) ∧ Stt w0 ao ts cap p w' (if (nxt ts k).t == s then k + 1 else k) nv acc o ∧ Fr w w' p none := by
  have hl := S.rb.lt
  obtain ⟨y, hy⟩ : ∃ y, y = nxt ts k := ⟨_, rfl⟩
  have c3 := S.rb.at 3
  rw [← hy] at c3 ⊢
  obtain ⟨yk, yt, yv, ya⟩ := y
  have c3' : w.cell? ⟨p, 3, none⟩ = some (.string ⟨yt.toArray⟩) := c3
  clear c3
  simp only
  cases hb : (yt == s) with
  | false =>
    have hb2 : ¬ yt = s := by intro h; subst h; simp at hb
    have HS : Hid (Stt w0 ao ts cap p w k nv acc o) := S
    clear S E hy
    go_enter Tryz.func249, Tryz.ntmps249
    go_wp2
    go_ret
    exact ⟨rfl, HS.out, Fr.refl _ _ _⟩
  | true =>
    have et : yt = s := by simpa using hb
    subst et
    have hk : k < ts.length := nxt_lt (by rw [← hy]; exact hs)
    have P := pass_any w0 p ao ts cap k (o : Int) _ nv w E S.low S.hp hk S.rb
    have HS : Hid (Stt w0 ao ts cap p w k nv acc o) := S
    clear S E hy hb
    go_enter Tryz.func249, Tryz.ntmps249
    go_wp2_with (go_at_call 274; refine P.mono ?_; rintro e w2 ⟨rfl, h2, g2⟩)
    go_ret
    have S := HS.out
    exact ⟨rfl, ⟨g2.below S.low S.low.size S.hp (fun k e => by cases e), S.hp, h2, S.own.fr S.rb g2, hk, S.few, S.deep⟩, g2⟩

/-- A word that is no name is no name; what stands for a name, if the next token is one. -/
def nmT (x : Ti) : Bool := x.k == 1 && !resL x.t
theorem tookName_any (w0 : World) (p : Nat) (ao : Option Addr) (ts : List Ti) (cap k : Nat) (o : Nat) (nv : Value) (acc : List Nd) (w : World) (E : Env w0 ao ts) (S : Stt w0 ao ts cap p w k nv acc o) :
    Calls Tryz.prog 339 #[.pointer (some ⟨p, 0, none⟩)] w fun e w' => e = .returned (.tuple #[.string ⟨(if nmT (nxt ts k) then (nxt ts k).t else []).toArray⟩, .bool (nmT (nxt ts k))]) ∧ Stt w0 ao ts cap p w' (if nmT (nxt ts k) then k + 1 else k) nv acc o ∧ Fr w w' p none := by
  have hl := S.rb.lt
  have hkn : nmT (nxt ts k) = true → k < ts.length := by
    intro h
    rcases Nat.lt_or_ge k ts.length with h' | h'
    · exact h'
    · unfold nxt at h
      rw [List.getElem?_eq_none h'] at h
      cases h
  have hlen : (nxt ts k).t.length ≤ 4096 := by
    unfold nxt
    split
    · split
      · rename_i x _ hr
        unfold rtok at hr
        split at hr
        · assumption
        · cases hr
      · simp
    · simp
  obtain ⟨y, hy⟩ : ∃ y, y = nxt ts k := ⟨_, rfl⟩
  have c2 := S.rb.at 2
  have c3 := S.rb.at 3
  rw [← hy] at c2 c3 hkn hlen ⊢
  obtain ⟨yk, yt, yv, ya⟩ := y
  have c2' : w.cell? ⟨p, 2, none⟩ = some (.int .i64 yk) := c2
  have c3' : w.cell? ⟨p, 3, none⟩ = some (.string ⟨yt.toArray⟩) := c3
  clear c2 c3
  unfold nmT at hkn ⊢
  simp only at hkn hlen ⊢
  have RS := fun W => reserved_any ⟨yt.toArray⟩ W
  have e0 : (ByteArray.mk yt.toArray).toList = yt := by rw [ByteArray.toList_eq]
  rw [e0] at RS
  clear e0
  have HS : Hid (Stt w0 ao ts cap p w k nv acc o) := S
  by_cases h1 : yk = 1
  case neg =>
    have h1' : (yk == 1) = false := by rw [beq_eq_false_iff_ne]; exact h1
    rw [h1', Bool.false_and]
    clear S E hy
    go_enter Tryz.func339, Tryz.ntmps339
    go_wp2
    refine bodyPost_ret_by (v := .tuple #[.string ⟨#[]⟩, .bool false]) ?_ rfl ⟨rfl, HS.out, Fr.refl _ _ _⟩
    simp [results, Tryz.results339, go_sem]
  subst h1
  rw [show ((1 : Int) == 1) = true from rfl, Bool.true_and] at hkn ⊢
  cases hr : resL yt with
  | true =>
    rw [hr] at RS
    clear S E hy hkn
    generalize ByteArray.mk yt.toArray = T at *
    go_enter Tryz.func339, Tryz.ntmps339
    go_wp2_with (go_at_call 18; refine (RS _).mono ?_; rintro e w' ⟨rfl, rfl⟩)
    refine bodyPost_ret_by (v := .tuple #[.string ⟨#[]⟩, .bool false]) ?_ rfl ⟨rfl, HS.out, Fr.refl _ _ _⟩
    simp [results, Tryz.results339, go_sem]
  | false =>
    rw [hr] at RS hkn
    have hk := hkn rfl
    have C := fun W => clone_any ⟨yt.toArray⟩ W (by show yt.length ≤ _; omega)
    have P : ∀ W, Below w.heap.size w W → Calls Tryz.prog 274 #[.pointer (some ⟨p, 0, none⟩)] W fun e w' => e = .returned (.tuple #[]) ∧ Rb w' p ao ts.length cap ((k + 1 : Nat) : Int) (nxt ts (k + 1)) nv (o : Int) ∧ Fr W w' p none := fun W h => pass_any w0 p ao ts cap k (o : Int) _ nv W E (S.low.trans (h.mono S.low.size)) S.hp hk (Cbox.later S.rb h)
    clear S E hy hkn hr
    go_enter Tryz.func339, Tryz.ntmps339
    go_wp2_with (first
      | (go_at_call 18; refine (RS _).mono ?_; rintro e w' ⟨rfl, rfl⟩)
      | (go_at_call 38; refine (C _).mono ?_; rintro e w1 ⟨rfl, b1⟩)
      | (go_at_call 274; refine (P _ b1).mono ?_; rintro e w2 ⟨rfl, h2, g2⟩))
    have S := HS.out
    have g : Fr w w2 p none := (Fr.of_below b1 p none).trans g2 fun _ h => .inl h
    refine bodyPost_ret_by (v := .tuple #[.string ⟨yt.toArray⟩, .bool true]) ?_ rfl ⟨rfl, ⟨g.below S.low S.low.size S.hp (fun k e => by cases e), S.hp, h2, S.own.fr S.rb g, hk, S.few, S.deep⟩, g⟩
    simp [results, Tryz.results339, go_sem]

/-- The op whose sign a text is, of those from one to another one; 0: none. -/
def opAt (t : List UInt8) (f n : Nat) : Nat := match n with
  | 0 => 0
  | n + 1 => if t == sgn f then f else opAt t (f + 1) n

theorem sgn_pos : ∀ j, 6 ≤ j → j < 19 → sgn j ≠ [] := fun j h1 h2 => (by decide : ∀ j, j < 19 → 6 ≤ j → sgn j ≠ []) j h2 h1

set_option maxRecDepth 20000 in
set_option maxHeartbeats 4000000 in
theorem tookOp_any (w0 : World) (p : Nat) (ao : Option Addr) (ts : List Ti) (cap k : Nat) (o : Nat) (nv : Value) (acc : List Nd) (f n : Nat) (L : Int) (w : World) (E : Env w0 ao ts) (hf : 6 ≤ f) (hn : f + n ≤ 19) (hL : L = (f : Int) + (n : Int) - 1) (S : Stt w0 ao ts cap p w k nv acc o) :
    Calls Tryz.prog 199 #[.pointer (some ⟨p, 0, none⟩), .int .i64 (f : Int), .int .i64 L] w fun e w' => e = .returned (.int .i64 (opAt (nxt ts k).t f n : Int)) ∧ Stt w0 ao ts cap p w' (if opAt (nxt ts k).t f n = 0 then k else k + 1) nv acc o ∧ Fr w w' p none := by
  obtain ⟨R, hR⟩ : ∃ R, R = opAt (nxt ts k).t f n := ⟨_, rfl⟩
  rw [← hR]
  have HR : Hid (R = opAt (nxt ts k).t f n) := hR
  clear hR
  obtain ⟨q, hq⟩ : ∃ q, q = if R = 0 then k else k + 1 := ⟨_, rfl⟩
  rw [← hq]
  have HQ : Hid (q = if R = 0 then k else k + 1) := hq
  have HL : Hid (L = (f : Int) + (n : Int) - 1) := hL
  clear hq hL
  go_enter Tryz.func199, Tryz.ntmps199
  go_wp2
  go_loopw [7] (fun r wi => ∃ j : Nat, r = .int .i64 (j : Int) ∧ f ≤ j ∧ j ≤ f + n ∧ Hid (Stt w0 ao ts cap p wi k nv acc o) ∧ Fr w wi p none ∧ Hid (R = opAt (nxt ts k).t j (f + n - j))) (fun r _ => 19 - (intOf r).toNat)
  case atStart => exact ⟨f, rfl, Nat.le_refl _, by omega, S, Fr.refl _ _ _, by show R = _; rw [HR.out]; congr 1; omega⟩
  case round =>
    obtain ⟨j, rfl, hj1, hj2, HS, g, hH⟩ := hrel
    by_cases hlt : j < f + n
    · have hlt' : (j : Int) ≤ L := by rw [HL.out]; omega
      have j0 : (0 : Int) ≤ (j : Int) := by omega
      have j1 : (j : Int) < 19 := by omega
      have hsg := E.sg.later HS.out.low j (by omega)
      have T := took_any w0 p ao ts cap k o nv acc (sgn j) wr E (sgn_pos j (by omega) (by omega)) HS.out
      have hne : f + n - j = (f + n - (j + 1)) + 1 := by omega
      have hstep : R = if (nxt ts k).t == sgn j then j else opAt (nxt ts k).t (j + 1) (f + n - (j + 1)) := by
        rw [hH.out, hne]; rfl
      have hgl := World.block_lt_of_cell? wr _ hsg
      clear hH HS E S HR
      cases hb : ((nxt ts k).t == sgn j) with
      | true =>
        rw [hb] at T hstep
        simp only [↓reduceIte] at T
        have HF : Hid (R = j) := by show R = j; rw [hstep, if_pos rfl]
        clear hstep hb
        go_wp2_with (go_at_call 249; refine T.mono ?_; rintro e w2 ⟨rfl, S2, g2⟩)
        go_ret
        have hR := HF.out
        have hq := HQ.out
        rw [if_neg (by omega)] at hq
        subst hq
        exact ⟨by rw [hR]; rfl, S2, g.trans g2 fun _ h => .inl h⟩
      | false =>
        rw [hb] at T hstep
        simp only [Bool.false_eq_true, ↓reduceIte] at T
        have HF : Hid (R = opAt (nxt ts k).t (j + 1) (f + n - (j + 1))) := by show R = _; rw [hstep, if_neg (by simp)]
        clear hstep hb
        go_wp2_with (go_at_call 249; refine T.mono ?_; rintro e w2 ⟨rfl, S2, g2⟩)
        exact ⟨⟨j + 1, by rw [cst1], by omega, by omega, S2, g.trans g2 fun _ h => .inl h, HF⟩, by simp [intOf]; omega⟩
    · have hlt' : ¬ (j : Int) ≤ L := by rw [HL.out]; omega
      have HF : Hid (R = 0) := by
        show R = 0
        rw [hH.out, show f + n - j = 0 by omega]; rfl
      clear hH E S HR
      go_wp2
      go_ret
      have hR := HF.out
      have hq := HQ.out
      rw [if_pos hR] at hq
      subst hq
      exact ⟨by rw [hR]; rfl, HS.out, g⟩
end Go.Proofs.YtclhmmgdhagloaaGreatDoor

namespace Go.Proofs.YtclhmmgdhagloaaGreatDoor
open Go.RowKit Go.Shelf
attribute [local go_sem] cell?_more frozen?_more setCell_more more_lt more_more more_drew more_drewN setCell_drewN alloc_drewN

/-- A node more, if there are not too many. -/
def putN (acc : List Nd) (x : Nd) : List Nd := if acc.length ≤ 256 then acc ++ [x] else acc
theorem ncells_snoc (x : List Nd) (t : Nd) : ncells (x ++ [t]) = ncells x ++ (ncs t).toList := by
  simp [ncells]
theorem one_nd (x : Nd) : ∀ u ∈ (ncs x).toList, u.oneCell' = true := by
  intro u hu
  simp at hu
  rcases hu with rfl | rfl | rfl | rfl | rfl | rfl | rfl | rfl <;> rfl
theorem infoNd : (Tryz.prog.info? 44).map (fun i => (i.zero, i.size, i.bytes)) = some (some (.agg #[.int .i64 0, .string ⟨#[]⟩, .string ⟨#[]⟩, .int .i64 0, .int .i64 0, .int .i64 0, .string ⟨#[]⟩, .int .i64 0]), 8, 88) := by kernel_rfl
theorem Nowns.push {w : World} {base n : Nat} {v : Value} {acc : List Nd} {x : Nd} (h : w.ownsRow base 44 8 v n (ncells acc ++ (ncs x).toList)) (hn : n = acc.length + 1) : Nowns w base v (acc ++ [x]) := by
  unfold Nowns
  rw [ncells_snoc, List.length_append]
  subst hn
  exact h
/-- The row of nodes is another one. -/
theorem rb_nodes {w : World} {p : Nat} {ao : Option Addr} {n cap : Nat} {k : Int} {y : Ti} {nv : Value} {o : Int} (h : Rb w p ao n cap k y nv o) (nv' : Value) : Rb (w.setCell ⟨p, 9, none⟩ nv') p ao n cap k y nv' o := by
  have := h.set 9 nv'
  simp only [List.setIfInBounds_toArray, List.set_cons_zero, List.set_cons_succ] at this
  exact this
theorem rb_open {w : World} {p : Nat} {ao : Option Addr} {n cap : Nat} {k : Int} {y : Ti} {nv : Value} {o : Int} (h : Rb w p ao n cap k y nv o) (o' : Int) : Rb (w.setCell ⟨p, 10, none⟩ (.int .i64 o')) p ao n cap k y nv o' := by
  have := h.set 10 (.int .i64 o')
  simp only [List.setIfInBounds_toArray, List.set_cons_zero, List.set_cons_succ] at this
  exact this
/-- How a step of the reader goes: all else stays; the row of nodes stays, or is a new one. -/
def Goes (p : Nat) (w w' : World) (nv nv' : Value) : Prop := Fr w w' p nv.ownBlock ∧ ∀ g, nv'.ownBlock = some g → nv.ownBlock = some g ∨ w.heap.size ≤ g
theorem Goes.refl (p : Nat) (w : World) (nv : Value) : Goes p w w nv nv := ⟨Fr.refl _ _ _, fun _ h => .inl h⟩
theorem Goes.of_fr {p : Nat} {w w' : World} (h : Fr w w' p none) (nv : Value) : Goes p w w' nv nv := ⟨⟨h.os, h.tape, h.output, h.size, fun k hk hp _ => h.block k hk hp (by simp)⟩, fun _ h => .inl h⟩
theorem Goes.trans {p : Nat} {w w1 w2 : World} {nv n1 n2 : Value} (h : Goes p w w1 nv n1) (k : Goes p w1 w2 n1 n2) : Goes p w w2 nv n2 := by
  refine ⟨h.1.trans k.1 h.2, fun g hg => ?_⟩
  rcases k.2 g hg with e | e
  · exact h.2 g e
  · exact .inr (Nat.le_trans h.1.size e)

theorem Nowns.shape {w : World} {base : Nat} {v : Value} {x : List Nd} (h : Nowns w base v x) : ∃ ao cap, v = .slice ao x.length cap := by
  obtain ⟨h1, h2⟩ := h
  rcases h2 with ⟨rfl, hn⟩ | ⟨g, cap, cur, rfl, _⟩
  · exact ⟨none, 0, by rw [hn]⟩
  · exact ⟨_, cap, rfl⟩

/-- What an append to the nodes leaves of the reader and of the box of the node. -/
theorem put_grown {w w3 : World} {B p n cap m : Nat} {ao na : Option Addr} {nc : Nat} {k o : Int} {y : Ti} {acc : List Nd} {x : Nd}
    (hr : Rb w p ao n cap k y (.slice na acc.length nc) o) (ho : Nowns w B (.slice na acc.length nc) acc) (hm : acc.length = m)
    (hg : ((w.alloc (.cells (ncs x) 44)).alloc (.cells (ncs x) 44)).drew.grownBy w3 (Value.slice na m nc).ownBlock) :
    Fr w w3 p (Value.slice na m nc).ownBlock ∧ Cbox w3 p (rcs ao n cap k y (.slice na m nc) o) 114 ∧ Cbox w3 w.heap.size (ncs x) 44 := by
  subst hm
  have hrow : ∀ g, (Value.slice na acc.length nc).ownBlock = some g → g < w.heap.size ∧ g ≠ p := by
    intro g h
    refine ⟨(World.ownsRow.lt ho g h).2, fun e => ?_⟩
    subst e
    obtain ⟨_, h2⟩ := ho
    rcases h2 with ⟨h2, _⟩ | ⟨g', cap', cur, e1, _, hg', _⟩
    · rw [h2] at h; cases h
    · rw [e1] at h
      have : g' = g := by injection h
      subst this
      have hr' : w.heap[g']? = some (.cells (rcs ao n cap k y (.slice na acc.length nc) o) 114 (0, 0)) := hr
      rw [hg'] at hr'
      have : (44 : Nat) = 114 := by injection hr' with hr'; injection hr'
      cases this
  have hblk : ∀ j, j < w.heap.size → (Value.slice na acc.length nc).ownBlock ≠ some j → w3.heap[j]? = w.heap[j]? := by
    intro j hj hne
    rw [hg.block j (by simp; omega) (fun e => hne e.symm)]
    have := ((Below.refl w.heap.size w).alloc (Nat.le_refl _) (.cells (ncs x) 44)).alloc (by simp) (.cells (ncs x) 44)
    exact this.block j hj
  refine ⟨⟨hg.os, hg.tape, hg.output, by have := hg.size; simp at this; omega, fun j hj _ hne => hblk j hj hne⟩, ?_, ?_⟩
  · have hlp : p < w.heap.size := Cbox.lt hr
    show w3.heap[p]? = _
    rw [hblk p hlp (fun e => (hrow p e).2 rfl)]
    exact hr
  · show w3.heap[w.heap.size]? = _
    rw [hg.block w.heap.size (by simp; omega) (fun e => by have := (hrow _ e.symm).1; omega)]
    have h := (Cbox.new w (ncs x) 44).later ((Below.refl _ _).alloc (Nat.le_refl _) (.cells (ncs x) 44))
    exact h

/-- The reader with a node more. -/
theorem put_end {w0 w w3 : World} {ao : Option Addr} {ts : List Ti} {cap p k o m : Nat} {na : Option Addr} {nc gg gc : Nat} {acc A : List Nd} {x : Nd}
    (S : Stt w0 ao ts cap p w k (.slice na acc.length nc) acc o) (hm : acc.length = m) (hA : A = acc ++ [x]) (hle : m ≤ 256)
    (g3 : Fr w w3 p (Value.slice na m nc).ownBlock) (hc : Cbox w3 p (rcs ao ts.length cap (k : Int) (nxt ts k) (.slice na m nc) (o : Int)) 114)
    (ho : w3.ownsRow w0.heap.size 44 8 (.slice (some ⟨gg, 0, none⟩) (m + 1) gc) (m + 1) (ncells acc ++ (ncs x).toList)) (hat : (Value.slice na m nc).ownBlock = some gg ∨ gg = w.heap.size + 2) :
    Stt w0 ao ts cap p (w3.setCell ⟨p, 9, none⟩ (.slice (some ⟨gg, 0, none⟩) (m + 1) gc)) k (.slice (some ⟨gg, 0, none⟩) (m + 1) gc) A o ∧ Goes p w (w3.setCell ⟨p, 9, none⟩ (.slice (some ⟨gg, 0, none⟩) (m + 1) gc)) (.slice na m nc) (.slice (some ⟨gg, 0, none⟩) (m + 1) gc) := by
  subst hm; subst hA
  have hn := Nowns.push ho rfl
  have g4 := Fr.set w3 p 9 (.slice (some ⟨gg, 0, none⟩) (acc.length + 1) gc) none
  have g : Fr w (w3.setCell ⟨p, 9, none⟩ (.slice (some ⟨gg, 0, none⟩) (acc.length + 1) gc)) p (Value.slice na acc.length nc).ownBlock := g3.trans g4 (fun k e => by cases e)
  have hrow : ∀ q, (Value.slice na acc.length nc).ownBlock = some q → w0.heap.size ≤ q := fun q h => (World.ownsRow.lt S.own q h).1
  refine ⟨⟨g.below S.low S.low.size S.hp hrow, S.hp, rb_nodes hc _, hn.fr hc g4, S.kl, by simp; omega, S.deep⟩, g, fun q h => ?_⟩
  have : gg = q := by injection h
  subst this
  rcases hat with h | h
  · exact .inl h
  · exact .inr (by omega)

set_option maxRecDepth 20000 in
set_option maxHeartbeats 4000000 in
theorem put_any (w0 : World) (p : Nat) (ao : Option Addr) (ts : List Ti) (cap k : Nat) (o : Nat) (nv : Value) (acc : List Nd) (x : Nd) (w : World) (S : Stt w0 ao ts cap p w k nv acc o) :
    Calls Tryz.prog 198 #[.pointer (some ⟨p, 0, none⟩), ndv x] w fun e w' => e = .returned (.tuple #[]) ∧ ∃ nv', Stt w0 ao ts cap p w' k nv' (putN acc x) o ∧ Goes p w w' nv nv' := by
  obtain ⟨i0, hi, hz0, hz1, hz2⟩ := info_parts infoNd
  have hl := S.rb.lt
  have c9 := S.rb.at 9
  have f9 := S.rb.free 9
  obtain ⟨na, nc, rfl⟩ := S.own.shape
  have HS : Hid (Stt w0 ao ts cap p w k (.slice na acc.length nc) acc o) := S
  obtain ⟨A, hA⟩ : ∃ A, A = putN acc x := ⟨_, rfl⟩
  rw [← hA]
  unfold putN at hA
  have HA : Hid (A = if acc.length ≤ 256 then acc ++ [x] else acc) := hA
  have hfew := S.few
  clear hA S
  obtain ⟨m, hm⟩ : ∃ m, acc.length = m := ⟨_, rfl⟩
  have HM : Hid (acc.length = m) := hm
  rw [hm] at hfew
  obtain ⟨xo, xt, xn, xv, xa⟩ := x
  by_cases hle : m ≤ 256
  case neg =>
    have hle' : ¬ (m : Int) ≤ 256 := by omega
    rw [hm] at c9 ⊢
    clear hm
    go_enter Tryz.func198, Tryz.ntmps198
    go_wp2
    go_end0
    have S := HS.out
    have g : Fr w (w.alloc (.cells (ncs ⟨xo, xt, xn, xv, xa⟩) 44)) p none := Fr.of_below ((Below.refl _ w).alloc (Nat.le_refl _) _) p none
    refine ⟨rfl, _, ⟨g.below S.low S.low.size S.hp (fun k e => by cases e), S.hp, ?_, ?_, S.kl, ?_, S.deep⟩, Goes.of_fr g _⟩
    · rw [← HM.out]; exact Cbox.later S.rb ((Below.refl _ w).alloc (Nat.le_refl _) _)
    · rw [HA.out, if_neg (by rw [HM.out]; exact hle), ← HM.out]
      exact S.own.fr S.rb g
    · rw [HA.out, if_neg (by rw [HM.out]; exact hle)]; exact S.few
  · have hle' : (m : Int) ≤ 256 := by omega
    have HO : Hid (Nowns w w0.heap.size (.slice na acc.length nc) acc) := HS.out.own
    rw [hm] at c9 ⊢
    have ho' : w.ownsRow w0.heap.size 44 8 (.slice na m nc) m (ncells acc) := by have := HO.out; unfold Nowns at this; rw [hm] at this; exact this
    have hB0 := HS.out.low.size
    have hpne : ¬ w.heap.size = p := by omega
    have HNEW : Hid (∀ j u, (ncs ⟨xo, xt, xn, xv, xa⟩).toList[j]? = some u → ((w.alloc (.cells (ncs ⟨xo, xt, xn, xv, xa⟩) 44)).drew.alloc (.cells (ncs ⟨xo, xt, xn, xv, xa⟩) 44)).cell? ((⟨w.heap.size + 1, 0, none⟩ : Addr).add j) = some u) := by
      have h := Cbox.new (w.alloc (.cells (ncs ⟨xo, xt, xn, xv, xa⟩) 44)).drew (ncs ⟨xo, xt, xn, xv, xa⟩) 44
      have e : ((w.alloc (.cells (ncs ⟨xo, xt, xn, xv, xa⟩) 44)).drew).heap.size = w.heap.size + 1 := by simp
      rw [e] at h
      exact World.news_of_block h
    clear hm
    go_enter Tryz.func198, Tryz.ntmps198
    go_wp2_with fail
    refine wp_region_held_drew (S := (fun W => W.cell? ⟨w.heap.size, 0, none⟩ = some (.int .i64 xo) ∧ W.cell? ⟨w.heap.size, 1, none⟩ = some (.string ⟨xt.toArray⟩) ∧ W.cell? ⟨w.heap.size, 2, none⟩ = some (.string ⟨xn.toArray⟩) ∧ W.cell? ⟨w.heap.size, 3, none⟩ = some (.int .i64 xv.k) ∧ W.cell? ⟨w.heap.size, 4, none⟩ = some (.int .i64 xv.n) ∧ W.cell? ⟨w.heap.size, 5, none⟩ = some (.int .i64 xv.m) ∧ W.cell? ⟨w.heap.size, 6, none⟩ = some (.string ⟨xv.b.toArray⟩) ∧ W.cell? ⟨w.heap.size, 7, none⟩ = some (.int .i64 xa))) (by kernel_rfl) ?_ (fun hHeld => ?_)
    · ((try dsimp only); (simp (maxDischargeDepth := 12) [go_sem]))
    refine wpAnyH_take (i := 0) (oi := { dst := some 10, op := Op.move (Operand.tmp 0), type := 169, pos := "read.go:109", after := #[], guard := none }) (v := ?_) rfl (by kernel_rfl) (by kernel_rfl) (by kernel_rfl) (fun _ _ _ h => h) (Or.inl ⟨by rfl, ?_⟩) (by assumption) ?_
    rotate_left
    · (intro W hSw; (try dsimp only at hSw); first | (go_simp; done) | (go_simp; with_reducible rfl))
    try simp only [Act.put, List.setIfInBounds_toArray, List.set_cons_zero, List.set_cons_succ]
    refine wpAnyH_take (i := 1) (oi := { dst := some 11, op := Op.move (Operand.tmp 0), type := 169, pos := "read.go:109", after := #[], guard := none }) (v := ?_) rfl (by kernel_rfl) (by kernel_rfl) (by kernel_rfl) (fun _ _ _ h => h) (Or.inl ⟨by rfl, ?_⟩) (by assumption) ?_
    rotate_left
    · (intro W hSw; (try dsimp only at hSw); first | (go_simp; done) | (go_simp; with_reducible rfl))
    try simp only [Act.put, List.setIfInBounds_toArray, List.set_cons_zero, List.set_cons_succ]
    refine wpAnyH_take (i := 2) (oi := { dst := some 12, op := Op.nilCheck (Operand.tmp 11), type := 0, pos := "read.go:109", after := #[{ on := 1, ground := Ground.data }], guard := none }) (v := ?_) rfl (by kernel_rfl) (by kernel_rfl) (by kernel_rfl) (fun _ _ _ h => h) (Or.inl ⟨by rfl, ?_⟩) (by assumption) ?_
    rotate_left
    · (intro W hSw; (try dsimp only at hSw); first | (go_simp; done) | (go_simp; with_reducible rfl))
    try simp only [Act.put, List.setIfInBounds_toArray, List.set_cons_zero, List.set_cons_succ]
    refine wpAnyH_take (i := 3) (oi := { dst := some 13, op := Op.fieldAddr 114 (Operand.tmp 12) 1, type := 0, pos := "read.go:109", after := #[{ on := 2, ground := Ground.data }], guard := none }) (v := ?_) rfl (by kernel_rfl) (by kernel_rfl) (by kernel_rfl) (fun _ _ _ h => h) (Or.inl ⟨by rfl, ?_⟩) (by assumption) ?_
    rotate_left
    · (intro W hSw; (try dsimp only at hSw); first | (go_simp; done) | (go_simp; with_reducible rfl))
    try simp only [Act.put, List.setIfInBounds_toArray, List.set_cons_zero, List.set_cons_succ]
    refine wpAnyH_take (i := 5) (oi := { dst := some 15, op := Op.load 44 (Operand.tmp 3), type := 44, pos := "read.go:109", after := #[], guard := none }) (v := ?_) rfl (by kernel_rfl) (by kernel_rfl) (by kernel_rfl) (fun _ _ _ h => h) (Or.inl ⟨by rfl, ?_⟩) (by assumption) ?_
    rotate_left
    · (intro W hSw; (try dsimp only at hSw); first | (go_simp; done) | (go_simp; with_reducible rfl))
    try simp only [Act.put, List.setIfInBounds_toArray, List.set_cons_zero, List.set_cons_succ]
    refine wpAnyH_ready (rs := [4, 6]) (by kernel_rfl) (by simp) ?_
    refine AllReadyH.cons (o := { dst := some 14, op := Op.load 24 (Operand.tmp 13), type := 24, pos := "read.go:109", after := #[{ on := 3, ground := Ground.data }], guard := none }) rfl (fun K hK => ?_) ?_
    · (
      go_simp
      refine hK.out _ _ ?_ (fun hHeld => ?_)
      · ((try dsimp only); (simp (maxDischargeDepth := 12) [go_sem]))
      clear hK K
      try simp only [Act.put, List.setIfInBounds_toArray, List.set_cons_zero, List.set_cons_succ]
      refine wpAnyH_ready (rs := [6]) (by kernel_rfl) (by simp) ?_
      refine AllReadyH.cons (o := { dst := some 16, op := Op.buildSlice 24 1 #[(0, Operand.tmp 15)], type := 24, pos := "read.go:109", after := #[{ on := 5, ground := Ground.data }], guard := none }) rfl (fun K hK => ?_) AllReadyH.nil
      go_simp
      refine hK.out _ _ ?_ (fun hHeld => ?_)
      · ((try dsimp only); (simp (maxDischargeDepth := 12) [go_sem]))
      clear hK K
      try simp only [Act.put, List.setIfInBounds_toArray, List.set_cons_zero, List.set_cons_succ]
      refine wpAnyH_ready (rs := [7]) (by kernel_rfl) (by simp) ?_
      refine AllReadyH.cons (o := { dst := some 17, op := Op.call { callee := Callee.builtin Builtin.append, args := #[Operand.tmp 14, Operand.tmp 16], argTypes := #[24, 24] }, type := 24, pos := "read.go:109", after := #[{ on := 4, ground := Ground.data }, { on := 6, ground := Ground.data }], guard := none }) rfl (fun K hK => ?_) AllReadyH.nil
      (refine step_append_lies _ (by rfl) _ _ _ (by rfl) w0.heap.size 44 i0 _ 8 88 Tryz.underlying24 hi hz0 hz1 hz2 rfl (by omega) _ m (ncells acc) (by rfl) (World.ownsRow.alloc ((World.ownsRow.alloc ho' _).drew) _) ⟨w.heap.size + 1, 0, none⟩ 1 1 (ncs ⟨xo, xt, xn, xv, xa⟩).toList (by rfl) (by rfl) HNEW.out (one_nd ⟨xo, xt, xn, xv, xa⟩) (by omega) (by unfold maxLen; omega) (by omega) (by simp; omega) (w.heap.size + 2) (by simp) ?_; intro gg gc w3 hown3 hgrow hat hlt3)
      obtain ⟨g3, hc3, hbx⟩ := put_grown HS.out.rb HO.out HM.out hgrow
      have c9c := hc3.at 9
      have f9c := hc3.free 9
      have hl3 := hc3.lt
      refine hK.out _ _ ?_ (fun hHeld => ?_)
      · exact ⟨hbx.at 0, hbx.at 1, hbx.at 2, hbx.at 3, hbx.at 4, hbx.at 5, hbx.at 6, hbx.at 7⟩
      clear hK K
      try simp only [Act.put, List.setIfInBounds_toArray, List.set_cons_zero, List.set_cons_succ]
      refine wpAnyH_take (i := 8) (oi := { dst := some 18, op := Op.nilCheck (Operand.tmp 10), type := 0, pos := "read.go:109", after := #[{ on := 0, ground := Ground.data }, { on := 0, ground := Ground.phase }, { on := 1, ground := Ground.phase }, { on := 2, ground := Ground.phase }, { on := 3, ground := Ground.phase }, { on := 4, ground := Ground.phase }, { on := 5, ground := Ground.phase }, { on := 6, ground := Ground.phase }, { on := 7, ground := Ground.phase }], guard := none }) (v := ?_) rfl (by kernel_rfl) (by kernel_rfl) (by kernel_rfl) (fun _ _ _ h => h) (Or.inl ⟨by rfl, ?_⟩) (by assumption) ?_
      rotate_left
      · (intro W hSw; (try dsimp only at hSw); first | (go_simp; done) | (go_simp; with_reducible rfl))
      try simp only [Act.put, List.setIfInBounds_toArray, List.set_cons_zero, List.set_cons_succ]
      refine wpAnyH_take (i := 9) (oi := { dst := some 19, op := Op.fieldAddr 114 (Operand.tmp 18) 1, type := 0, pos := "read.go:109", after := #[{ on := 8, ground := Ground.data }, { on := 0, ground := Ground.phase }, { on := 1, ground := Ground.phase }, { on := 2, ground := Ground.phase }, { on := 3, ground := Ground.phase }, { on := 4, ground := Ground.phase }, { on := 5, ground := Ground.phase }, { on := 6, ground := Ground.phase }, { on := 7, ground := Ground.phase }], guard := none }) (v := ?_) rfl (by kernel_rfl) (by kernel_rfl) (by kernel_rfl) (fun _ _ _ h => h) (Or.inl ⟨by rfl, ?_⟩) (by assumption) ?_
      rotate_left
      · (intro W hSw; (try dsimp only at hSw); first | (go_simp; done) | (go_simp; with_reducible rfl))
      try simp only [Act.put, List.setIfInBounds_toArray, List.set_cons_zero, List.set_cons_succ]
      refine wpAnyH_ready (rs := [10]) (by kernel_rfl) (by simp) ?_
      refine AllReadyH.cons (o := { dst := none, op := Op.store 24 (Operand.tmp 19) (Operand.tmp 17), type := 0, pos := "read.go:109", after := #[{ on := 9, ground := Ground.data }, { on := 7, ground := Ground.data }, { on := 7, ground := Ground.chain }, { on := 0, ground := Ground.phase }, { on := 1, ground := Ground.phase }, { on := 2, ground := Ground.phase }, { on := 3, ground := Ground.phase }, { on := 4, ground := Ground.phase }, { on := 5, ground := Ground.phase }, { on := 6, ground := Ground.phase }, { on := 7, ground := Ground.phase }], guard := none }) rfl (fun K hK => ?_) AllReadyH.nil
      go_simp
      refine hK.out _ _ ?_ (fun hHeld => ?_)
      · (have y0 := hbx.at 0; have y1 := hbx.at 1; have y2 := hbx.at 2; have y3 := hbx.at 3; have y4 := hbx.at 4; have y5 := hbx.at 5; have y6 := hbx.at 6; have y7 := hbx.at 7; (try dsimp only); simp (maxDischargeDepth := 12) [go_sem, y0, y1, y2, y3, y4, y5, y6, y7])
      clear hK K
      try simp only [Act.put, List.setIfInBounds_toArray, List.set_cons_zero, List.set_cons_succ]
      refine wpAnyH_done (by kernel_rfl) ?_ _
      go_wp2
      go_end0
      exact ⟨rfl, _, put_end HS.out HM.out (by rw [HA.out, if_pos (by rw [HM.out]; exact hle)]) hle g3 hc3 hown3 hat⟩)
    refine AllReadyH.cons (o := { dst := some 16, op := Op.buildSlice 24 1 #[(0, Operand.tmp 15)], type := 24, pos := "read.go:109", after := #[{ on := 5, ground := Ground.data }], guard := none }) rfl (fun K hK => ?_) AllReadyH.nil
    go_simp
    refine hK.out _ _ ?_ (fun hHeld => ?_)
    · ((try dsimp only); (simp (maxDischargeDepth := 12) [go_sem]))
    clear hK K
    try simp only [Act.put, List.setIfInBounds_toArray, List.set_cons_zero, List.set_cons_succ]
    refine wpAnyH_ready (rs := [4]) (by kernel_rfl) (by simp) ?_
    refine AllReadyH.cons (o := { dst := some 14, op := Op.load 24 (Operand.tmp 13), type := 24, pos := "read.go:109", after := #[{ on := 3, ground := Ground.data }], guard := none }) rfl (fun K hK => ?_) AllReadyH.nil
    go_simp
    refine hK.out _ _ ?_ (fun hHeld => ?_)
    · ((try dsimp only); (simp (maxDischargeDepth := 12) [go_sem]))
    clear hK K
    try simp only [Act.put, List.setIfInBounds_toArray, List.set_cons_zero, List.set_cons_succ]
    refine wpAnyH_ready (rs := [7]) (by kernel_rfl) (by simp) ?_
    refine AllReadyH.cons (o := { dst := some 17, op := Op.call { callee := Callee.builtin Builtin.append, args := #[Operand.tmp 14, Operand.tmp 16], argTypes := #[24, 24] }, type := 24, pos := "read.go:109", after := #[{ on := 4, ground := Ground.data }, { on := 6, ground := Ground.data }], guard := none }) rfl (fun K hK => ?_) AllReadyH.nil
    (refine step_append_lies _ (by rfl) _ _ _ (by rfl) w0.heap.size 44 i0 _ 8 88 Tryz.underlying24 hi hz0 hz1 hz2 rfl (by omega) _ m (ncells acc) (by rfl) (World.ownsRow.alloc ((World.ownsRow.alloc ho' _).drew) _) ⟨w.heap.size + 1, 0, none⟩ 1 1 (ncs ⟨xo, xt, xn, xv, xa⟩).toList (by rfl) (by rfl) HNEW.out (one_nd ⟨xo, xt, xn, xv, xa⟩) (by omega) (by unfold maxLen; omega) (by omega) (by simp; omega) (w.heap.size + 2) (by simp) ?_; intro gg gc w3 hown3 hgrow hat hlt3)
    obtain ⟨g3, hc3, hbx⟩ := put_grown HS.out.rb HO.out HM.out hgrow
    have c9c := hc3.at 9
    have f9c := hc3.free 9
    have hl3 := hc3.lt
    refine hK.out _ _ ?_ (fun hHeld => ?_)
    · exact ⟨hbx.at 0, hbx.at 1, hbx.at 2, hbx.at 3, hbx.at 4, hbx.at 5, hbx.at 6, hbx.at 7⟩
    clear hK K
    try simp only [Act.put, List.setIfInBounds_toArray, List.set_cons_zero, List.set_cons_succ]
    refine wpAnyH_take (i := 8) (oi := { dst := some 18, op := Op.nilCheck (Operand.tmp 10), type := 0, pos := "read.go:109", after := #[{ on := 0, ground := Ground.data }, { on := 0, ground := Ground.phase }, { on := 1, ground := Ground.phase }, { on := 2, ground := Ground.phase }, { on := 3, ground := Ground.phase }, { on := 4, ground := Ground.phase }, { on := 5, ground := Ground.phase }, { on := 6, ground := Ground.phase }, { on := 7, ground := Ground.phase }], guard := none }) (v := ?_) rfl (by kernel_rfl) (by kernel_rfl) (by kernel_rfl) (fun _ _ _ h => h) (Or.inl ⟨by rfl, ?_⟩) (by assumption) ?_
    rotate_left
    · (intro W hSw; (try dsimp only at hSw); first | (go_simp; done) | (go_simp; with_reducible rfl))
    try simp only [Act.put, List.setIfInBounds_toArray, List.set_cons_zero, List.set_cons_succ]
    refine wpAnyH_take (i := 9) (oi := { dst := some 19, op := Op.fieldAddr 114 (Operand.tmp 18) 1, type := 0, pos := "read.go:109", after := #[{ on := 8, ground := Ground.data }, { on := 0, ground := Ground.phase }, { on := 1, ground := Ground.phase }, { on := 2, ground := Ground.phase }, { on := 3, ground := Ground.phase }, { on := 4, ground := Ground.phase }, { on := 5, ground := Ground.phase }, { on := 6, ground := Ground.phase }, { on := 7, ground := Ground.phase }], guard := none }) (v := ?_) rfl (by kernel_rfl) (by kernel_rfl) (by kernel_rfl) (fun _ _ _ h => h) (Or.inl ⟨by rfl, ?_⟩) (by assumption) ?_
    rotate_left
    · (intro W hSw; (try dsimp only at hSw); first | (go_simp; done) | (go_simp; with_reducible rfl))
    try simp only [Act.put, List.setIfInBounds_toArray, List.set_cons_zero, List.set_cons_succ]
    refine wpAnyH_ready (rs := [10]) (by kernel_rfl) (by simp) ?_
    refine AllReadyH.cons (o := { dst := none, op := Op.store 24 (Operand.tmp 19) (Operand.tmp 17), type := 0, pos := "read.go:109", after := #[{ on := 9, ground := Ground.data }, { on := 7, ground := Ground.data }, { on := 7, ground := Ground.chain }, { on := 0, ground := Ground.phase }, { on := 1, ground := Ground.phase }, { on := 2, ground := Ground.phase }, { on := 3, ground := Ground.phase }, { on := 4, ground := Ground.phase }, { on := 5, ground := Ground.phase }, { on := 6, ground := Ground.phase }, { on := 7, ground := Ground.phase }], guard := none }) rfl (fun K hK => ?_) AllReadyH.nil
    go_simp
    refine hK.out _ _ ?_ (fun hHeld => ?_)
    · (have y0 := hbx.at 0; have y1 := hbx.at 1; have y2 := hbx.at 2; have y3 := hbx.at 3; have y4 := hbx.at 4; have y5 := hbx.at 5; have y6 := hbx.at 6; have y7 := hbx.at 7; (try dsimp only); simp (maxDischargeDepth := 12) [go_sem, y0, y1, y2, y3, y4, y5, y6, y7])
    clear hK K
    try simp only [Act.put, List.setIfInBounds_toArray, List.set_cons_zero, List.set_cons_succ]
    refine wpAnyH_done (by kernel_rfl) ?_ _
    go_wp2
    go_end0
    exact ⟨rfl, _, put_end HS.out HM.out (by rw [HA.out, if_pos (by rw [HM.out]; exact hle)]) hle g3 hc3 hown3 hat⟩
end Go.Proofs.YtclhmmgdhagloaaGreatDoor

namespace Go.Proofs.YtclhmmgdhagloaaGreatDoor

/-- Where a reading has come to: its error, its place, its nodes. -/
abbrev Rz := Nat × Nat × List Nd
def opX (op : Nat) : Nd := ⟨op, [], [], vz0, 0⟩
/-- Parts, parted by the signs of ops. -/
def stepsF (N : Nat → Ti) (f c : Nat) (part : Nat → List Nd → Rz) : Nat → Nat → Nat → List Nd → Rz
  | 0, _, k, acc => (99, k, acc)
  | m + 1, op, k, acc =>
    if (part k acc).1 = 0 then
      (if opAt (N (part k acc).2.1).t f c = 0 then (0, (part k acc).2.1, if op = 0 then (part k acc).2.2 else putN (part k acc).2.2 (opX op))
       else stepsF N f c part m (opAt (N (part k acc).2.1).t f c) ((part k acc).2.1 + 1) (if op = 0 then (part k acc).2.2 else putN (part k acc).2.2 (opX op)))
    else part k acc

/-- The parts of the grammar. -/
inductive NT | ex | an | no | co | su | te | un | en
def NT.rank : NT → Nat
  | .un => 1 | .te => 2 | .su => 3 | .co => 4 | .no => 5 | .an => 6 | .ex => 7 | .en => 8

abbrev wNot : List UInt8 := [110, 111, 116]
abbrev wIs : List UInt8 := [105, 115]
abbrev wNull : List UInt8 := [110, 117, 108, 108]
/-- What stands behind an is. -/
def nullF (N : Nat → Ti) (k : Nat) (acc : List Nd) : Rz :=
  if (N k).t == wNot then (if (N (k + 1)).t == wNull then (0, k + 2, putN (putN acc (opX 5)) (opX 4)) else (30, k + 1, acc))
  else (if (N k).t == wNull then (0, k + 1, putN acc (opX 5)) else (30, k, acc))
/-- The arguments of a call, and how many there are. -/
def argsL (N : Nat → Ti) (part : Nat → List Nd → Rz) : Nat → Nat → List Nd → Nat → Rz × Nat
  | 0, k, acc, c => ((30, k, acc), c)
  | m + 1, k, acc, c =>
    if (part k acc).1 = 0 then
      (if (N (part k acc).2.1).t == [44] then argsL N part m ((part k acc).2.1 + 1) (part k acc).2.2 (c + 1)
       else if (N (part k acc).2.1).t == [41] then ((0, (part k acc).2.1 + 1, (part k acc).2.2), c + 1)
       else ((30, (part k acc).2.1, (part k acc).2.2), c + 1))
    else (part k acc, c)
def argsF (N : Nat → Ti) (part : Nat → List Nd → Rz) (k : Nat) (acc : List Nd) : Rz × Nat :=
  if (N k).t == [41] then ((0, k + 1, acc), 0) else argsL N part 4 k acc 0
/-- A column or a call. -/
def colF (N : Nat → Ti) (part : Nat → List Nd → Rz) (k : Nat) (acc : List Nd) (o : Nat) : Rz :=
  if nmT (N k) then
    (if (N (k + 1)).t == [40] then
      (if o = 64 then (38, k + 2, putN acc ⟨19, [], (N k).t, vz0, 0⟩)
       else ((argsF N part (k + 2) acc).1.1, (argsF N part (k + 2) acc).1.2.1, putN (argsF N part (k + 2) acc).1.2.2 ⟨19, [], (N k).t, vz0, ((argsF N part (k + 2) acc).2 : Int)⟩))
     else if (N (k + 1)).t == [46] then
      (if nmT (N (k + 2)) then (0, k + 3, putN acc ⟨2, (N k).t, (N (k + 2)).t, vz0, 0⟩) else (30, k + 2, acc))
     else (0, k + 1, putN acc ⟨2, [], (N k).t, vz0, 0⟩))
  else (30, k, acc)

/-- How a part of the grammar is read. -/
def rdx (N : Nat → Ti) (V : List UInt8 → Option Va) (M : Nat) : Nat → NT → Nat → List Nd → Nat → Rz
  | 0, _, k, acc, _ => (99, k, acc)
  | n + 1, .ex, k, acc, o => stepsF N 18 1 (fun k acc => rdx N V M n .an k acc o) M 0 k acc
  | n + 1, .an, k, acc, o => stepsF N 17 1 (fun k acc => rdx N V M n .no k acc o) M 0 k acc
  | n + 1, .no, k, acc, o =>
    if (N k).t == wNot then
      (if o = 64 then (38, k + 1, putN acc (opX 4)) else ((rdx N V M n .no (k + 1) acc (o + 1)).1, (rdx N V M n .no (k + 1) acc (o + 1)).2.1, putN (rdx N V M n .no (k + 1) acc (o + 1)).2.2 (opX 4)))
    else rdx N V M n .co k acc o
  | n + 1, .co, k, acc, o =>
    if (rdx N V M n .su k acc o).1 = 0 then
      (if (N (rdx N V M n .su k acc o).2.1).t == wIs then nullF N ((rdx N V M n .su k acc o).2.1 + 1) (rdx N V M n .su k acc o).2.2
       else if opAt (N (rdx N V M n .su k acc o).2.1).t 11 6 = 0 then rdx N V M n .su k acc o
       else ((rdx N V M n .su ((rdx N V M n .su k acc o).2.1 + 1) (rdx N V M n .su k acc o).2.2 o).1, (rdx N V M n .su ((rdx N V M n .su k acc o).2.1 + 1) (rdx N V M n .su k acc o).2.2 o).2.1,
         putN (rdx N V M n .su ((rdx N V M n .su k acc o).2.1 + 1) (rdx N V M n .su k acc o).2.2 o).2.2 (opX (opAt (N (rdx N V M n .su k acc o).2.1).t 11 6))))
    else rdx N V M n .su k acc o
  | n + 1, .su, k, acc, o => stepsF N 9 2 (fun k acc => rdx N V M n .te k acc o) M 0 k acc
  | n + 1, .te, k, acc, o => stepsF N 6 3 (fun k acc => rdx N V M n .un k acc o) M 0 k acc
  | n + 1, .un, k, acc, o =>
    if (N k).t == [45] then
      (if o = 64 then (38, k + 1, putN acc (opX 3)) else ((rdx N V M n .un (k + 1) acc (o + 1)).1, (rdx N V M n .un (k + 1) acc (o + 1)).2.1, putN (rdx N V M n .un (k + 1) acc (o + 1)).2.2 (opX 3)))
    else if (N k).t == [40] then
      (if o = 64 then (38, k + 1, acc) else rdx N V M n .en (k + 1) acc (o + 1))
    else match V (N k).t with
      | some v => (0, k + 1, putN acc ⟨1, [], [], v, 0⟩)
      | none => colF N (fun k acc => rdx N V M n .ex k acc (o + 1)) k acc o
  | n + 1, .en, k, acc, o =>
    if (rdx N V M n .ex k acc o).1 = 0 then
      (if (N (rdx N V M n .ex k acc o).2.1).t == [41] then (0, (rdx N V M n .ex k acc o).2.1 + 1, (rdx N V M n .ex k acc o).2.2) else (30, (rdx N V M n .ex k acc o).2.1, (rdx N V M n .ex k acc o).2.2))
    else rdx N V M n .ex k acc o

def fnOf : NT → Nat
  | .ex => 74 | .an => 137 | .no => 200 | .co => 250 | .su => 275 | .te => 300 | .un => 314 | .en => 329

/-- What a part of the reader does with a state, told by a function. -/
def Does (w0 : World) (ao : Option Addr) (ts : List Ti) (cap p : Nat) (fn : Nat) (o k : Nat) (_acc : List Nd) (nv : Value) (w : World) (r : Rz) : Prop :=
  Calls Tryz.prog fn #[.pointer (some ⟨p, 0, none⟩)] w fun e w' => e = .returned (.int .i64 (r.1 : Int)) ∧ (∃ nv', Stt w0 ao ts cap p w' r.2.1 nv' r.2.2 o ∧ Goes p w w' nv nv') ∧ k ≤ r.2.1
end Go.Proofs.YtclhmmgdhagloaaGreatDoor
