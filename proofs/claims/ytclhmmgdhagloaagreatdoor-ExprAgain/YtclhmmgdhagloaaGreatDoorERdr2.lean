/-
  The reader of expressions: its state, and the methods pass and took.
-/
import Derived.Test.YtclhmmgdhagloaaGreatDoorERdr
namespace Go.Proofs.YtclhmmgdhagloaaGreatDoor
open Go.RowKit Go.Shelf
attribute [local go_sem] cell?_more frozen?_more setCell_more more_lt more_more more_drew more_drewN setCell_drewN alloc_drewN

def ncells (x : List Nd) : List Value := x.flatMap fun t => (ncs t).toList
/-- Nodes that a call has made lie behind a slice. -/
abbrev Nowns (w : World) (base : Nat) (v : Value) (x : List Nd) : Prop := w.ownsRow base 44 8 v x.length (ncells x)

/-- A reader at work. -/
structure Stt (w0 : World) (ao : Option Addr) (ts : List Ti) (cap p : Nat) (w : World) (k : Nat) (nv : Value) (acc : List Nd) (o : Nat) : Prop where
  low : Below w0.heap.size w0 w
  hp : w0.heap.size ≤ p
  rb : Rb w p ao ts.length cap (k : Int) (nxt ts k) nv (o : Int)
  own : Nowns w w0.heap.size nv acc
  kl : k ≤ ts.length
  few : acc.length ≤ 257
  deep : o ≤ 64

theorem Nowns.fr {w w' : World} {B p : Nat} {v : Value} {x : List Nd} {cs : Array Value} (h : Nowns w B v x) (hc : Cbox w p cs 114) (hf : Fr w w' p none) : Nowns w' B v x := by
  obtain ⟨h1, h2⟩ := h
  refine ⟨h1, ?_⟩
  rcases h2 with h2 | ⟨g, cap, cur, rfl, hb, hg, hr⟩
  · exact .inl h2
  · refine .inr ⟨g, cap, cur, rfl, hb, ?_, hr⟩
    have hlt : g < w.heap.size := by
      rcases Nat.lt_or_ge g w.heap.size with h | h
      · exact h
      · rw [Array.getElem?_eq_none h] at hg; cases hg
    rw [hf.block g hlt ?_ (by simp)]
    · exact hg
    · intro e
      subst e
      unfold Cbox at hc
      rw [hg] at hc
      have : (44 : Nat) = 114 := by injection hc with hc; injection hc
      cases this

theorem nxt_lt {ts : List Ti} {k : Nat} (h : (nxt ts k).t ≠ []) : k < ts.length := by
  rcases Nat.lt_or_ge k ts.length with h' | h'
  · exact h'
  · unfold nxt at h
    rw [List.getElem?_eq_none h'] at h
    exact absurd rfl h

/-- The place is moved on. -/
theorem rb_size {w : World} {p : Nat} {ao : Option Addr} {n cap : Nat} {k : Int} {y : Ti} {nv : Value} {o : Int} (h : Rb w p ao n cap k y nv o) (k' : Int) : Rb (w.setCell ⟨p, 1, none⟩ (.int .i64 k')) p ao n cap k' y nv o := by
  have := h.set 1 (.int .i64 k')
  simp only [List.setIfInBounds_toArray, List.set_cons_zero, List.set_cons_succ] at this
  exact this

set_option maxRecDepth 20000 in
set_option maxHeartbeats 4000000 in
theorem pass_any (w0 : World) (p : Nat) (ao : Option Addr) (ts : List Ti) (cap k : Nat) (o : Int) (y : Ti) (nv : Value) (w : World) (E : Env w0 ao ts) (hB : Below w0.heap.size w0 w) (hp : w0.heap.size ≤ p) (hk : k < ts.length) (h : Rb w p ao ts.length cap (k : Int) y nv o) :
    Calls Tryz.prog 274 #[.pointer (some ⟨p, 0, none⟩)] w fun e w' => e = .returned (.tuple #[]) ∧ Rb w' p ao ts.length cap ((k + 1 : Nat) : Int) (nxt ts (k + 1)) nv o ∧ Fr w w' p none := by
  have hl := h.lt
  have c1 := h.at 1
  have f1 := h.free 1
  have hfew := E.few
  have h1 := rb_size h ((k + 1 : Nat) : Int)
  have g1 := Fr.set w p 1 (.int .i64 ((k + 1 : Nat) : Int)) none
  have e1 : ((k + 1 : Nat) : Int) = (k : Int) + 1 := by omega
  rw [e1] at h1 g1
  have L := look_any w0 p ao ts cap (k + 1) o y nv (w.setCell ⟨p, 1, none⟩ (.int .i64 ((k : Int) + 1))) E (g1.below hB hB.size hp (fun k e => by cases e)) hp (by rw [e1]; exact h1)
  rw [e1] at L ⊢
  clear E h1
  have hkl : (k : Int) < 4096 := by omega
  generalize nxt ts (k + 1) = X at *
  generalize ts.length = n at *
  go_enter Tryz.func274, Tryz.ntmps274
  go_wp2_with (go_at_call 73; refine L.mono ?_; rintro e w2 ⟨rfl, h2, g2⟩)
  go_end0
  exact ⟨rfl, h2, g1.trans g2 fun _ h => .inl h⟩

theorem took_any (w0 : World) (p : Nat) (ao : Option Addr) (ts : List Ti) (cap k : Nat) (o : Nat) (nv : Value) (acc : List Nd) (s : List UInt8) (w : World) (E : Env w0 ao ts) (hs : s ≠ []) (S : Stt w0 ao ts cap p w k nv acc o) :
    Calls Tryz.prog 249 #[.pointer (some ⟨p, 0, none⟩), .string ⟨s.toArray⟩] w fun e w' => e = .returned (.bool ((nxt ts k).t == s)) ∧ Stt w0 ao ts cap p w' (if (nxt ts k).t == s then k + 1 else k) nv acc o ∧ Fr w w' p none := by
  have hl := S.rb.lt
  obtain ⟨y, hy⟩ : ∃ y, y = nxt ts k := ⟨_, rfl⟩
  have c3 := S.rb.at 3
  rw [← hy] at c3 ⊢
  obtain ⟨yk, yt, yv, ya⟩ := y
  have c3' : w.cell? ⟨p, 3, none⟩ = some (.string ⟨yt.toArray⟩) := c3
  clear c3
  simp only
  cases hb : (yt == s) with
  | false =>
    have hb2 : ¬ yt = s := by intro h; subst h; simp at hb
    have HS : Hid (Stt w0 ao ts cap p w k nv acc o) := S
    clear S E hy
    go_enter Tryz.func249, Tryz.ntmps249
    go_wp2
    go_ret
    exact ⟨rfl, HS.out, Fr.refl _ _ _⟩
  | true =>
    have et : yt = s := by simpa using hb
    subst et
    have hk : k < ts.length := nxt_lt (by rw [← hy]; exact hs)
    have P := pass_any w0 p ao ts cap k (o : Int) _ nv w E S.low S.hp hk S.rb
    have HS : Hid (Stt w0 ao ts cap p w k nv acc o) := S
    clear S E hy hb
    go_enter Tryz.func249, Tryz.ntmps249
    go_wp2_with (go_at_call 274; refine P.mono ?_; rintro e w2 ⟨rfl, h2, g2⟩)
    go_ret
    have S := HS.out
    exact ⟨rfl, ⟨g2.below S.low S.low.size S.hp (fun k e => by cases e), S.hp, h2, S.own.fr S.rb g2, hk, S.few, S.deep⟩, g2⟩

/-- A word that is no name is no name; what stands for a name, if the next token is one. -/
def nmT (x : Ti) : Bool := x.k == 1 && !resL x.t
theorem tookName_any (w0 : World) (p : Nat) (ao : Option Addr) (ts : List Ti) (cap k : Nat) (o : Nat) (nv : Value) (acc : List Nd) (w : World) (E : Env w0 ao ts) (S : Stt w0 ao ts cap p w k nv acc o) :
    Calls Tryz.prog 339 #[.pointer (some ⟨p, 0, none⟩)] w fun e w' => e = .returned (.tuple #[.string ⟨(if nmT (nxt ts k) then (nxt ts k).t else []).toArray⟩, .bool (nmT (nxt ts k))]) ∧ Stt w0 ao ts cap p w' (if nmT (nxt ts k) then k + 1 else k) nv acc o ∧ Fr w w' p none := by
  have hl := S.rb.lt
  have hkn : nmT (nxt ts k) = true → k < ts.length := by
    intro h
    rcases Nat.lt_or_ge k ts.length with h' | h'
    · exact h'
    · unfold nxt at h
      rw [List.getElem?_eq_none h'] at h
      cases h
  have hlen : (nxt ts k).t.length ≤ 4096 := by
    unfold nxt
    split
    · split
      · rename_i x _ hr
        unfold rtok at hr
        split at hr
        · assumption
        · cases hr
      · simp
    · simp
  obtain ⟨y, hy⟩ : ∃ y, y = nxt ts k := ⟨_, rfl⟩
  have c2 := S.rb.at 2
  have c3 := S.rb.at 3
  rw [← hy] at c2 c3 hkn hlen ⊢
  obtain ⟨yk, yt, yv, ya⟩ := y
  have c2' : w.cell? ⟨p, 2, none⟩ = some (.int .i64 yk) := c2
  have c3' : w.cell? ⟨p, 3, none⟩ = some (.string ⟨yt.toArray⟩) := c3
  clear c2 c3
  unfold nmT at hkn ⊢
  simp only at hkn hlen ⊢
  have RS := fun W => reserved_any ⟨yt.toArray⟩ W
  have e0 : (ByteArray.mk yt.toArray).toList = yt := by rw [ByteArray.toList_eq]
  rw [e0] at RS
  clear e0
  have HS : Hid (Stt w0 ao ts cap p w k nv acc o) := S
  by_cases h1 : yk = 1
  case neg =>
    have h1' : (yk == 1) = false := by rw [beq_eq_false_iff_ne]; exact h1
    rw [h1', Bool.false_and]
    clear S E hy
    go_enter Tryz.func339, Tryz.ntmps339
    go_wp2
    refine bodyPost_ret_by (v := .tuple #[.string ⟨#[]⟩, .bool false]) ?_ rfl ⟨rfl, HS.out, Fr.refl _ _ _⟩
    simp [results, Tryz.results339, go_sem]
  subst h1
  rw [show ((1 : Int) == 1) = true from rfl, Bool.true_and] at hkn ⊢
  cases hr : resL yt with
  | true =>
    rw [hr] at RS
    clear S E hy hkn
    generalize ByteArray.mk yt.toArray = T at *
    go_enter Tryz.func339, Tryz.ntmps339
    go_wp2_with (go_at_call 18; refine (RS _).mono ?_; rintro e w' ⟨rfl, rfl⟩)
    refine bodyPost_ret_by (v := .tuple #[.string ⟨#[]⟩, .bool false]) ?_ rfl ⟨rfl, HS.out, Fr.refl _ _ _⟩
    simp [results, Tryz.results339, go_sem]
  | false =>
    rw [hr] at RS hkn
    have hk := hkn rfl
    have C := fun W => clone_any ⟨yt.toArray⟩ W (by show yt.length ≤ _; omega)
    have P : ∀ W, Below w.heap.size w W → Calls Tryz.prog 274 #[.pointer (some ⟨p, 0, none⟩)] W fun e w' => e = .returned (.tuple #[]) ∧ Rb w' p ao ts.length cap ((k + 1 : Nat) : Int) (nxt ts (k + 1)) nv (o : Int) ∧ Fr W w' p none := fun W h => pass_any w0 p ao ts cap k (o : Int) _ nv W E (S.low.trans (h.mono S.low.size)) S.hp hk (Cbox.later S.rb h)
    clear S E hy hkn hr
    go_enter Tryz.func339, Tryz.ntmps339
    go_wp2_with (first
      | (go_at_call 18; refine (RS _).mono ?_; rintro e w' ⟨rfl, rfl⟩)
      | (go_at_call 38; refine (C _).mono ?_; rintro e w1 ⟨rfl, b1⟩)
      | (go_at_call 274; refine (P _ b1).mono ?_; rintro e w2 ⟨rfl, h2, g2⟩))
    have S := HS.out
    have g : Fr w w2 p none := (Fr.of_below b1 p none).trans g2 fun _ h => .inl h
    refine bodyPost_ret_by (v := .tuple #[.string ⟨yt.toArray⟩, .bool true]) ?_ rfl ⟨rfl, ⟨g.below S.low S.low.size S.hp (fun k e => by cases e), S.hp, h2, S.own.fr S.rb g, hk, S.few, S.deep⟩, g⟩
    simp [results, Tryz.results339, go_sem]

/-- The op whose sign a text is, of those from one to another one; 0: none. -/
def opAt (t : List UInt8) (f n : Nat) : Nat := match n with
  | 0 => 0
  | n + 1 => if t == sgn f then f else opAt t (f + 1) n

theorem sgn_pos : ∀ j, 6 ≤ j → j < 19 → sgn j ≠ [] := fun j h1 h2 => (by decide : ∀ j, j < 19 → 6 ≤ j → sgn j ≠ []) j h2 h1

set_option maxRecDepth 20000 in
set_option maxHeartbeats 4000000 in
theorem tookOp_any (w0 : World) (p : Nat) (ao : Option Addr) (ts : List Ti) (cap k : Nat) (o : Nat) (nv : Value) (acc : List Nd) (f n : Nat) (L : Int) (w : World) (E : Env w0 ao ts) (hf : 6 ≤ f) (hn : f + n ≤ 19) (hL : L = (f : Int) + (n : Int) - 1) (S : Stt w0 ao ts cap p w k nv acc o) :
    Calls Tryz.prog 199 #[.pointer (some ⟨p, 0, none⟩), .int .i64 (f : Int), .int .i64 L] w fun e w' => e = .returned (.int .i64 (opAt (nxt ts k).t f n : Int)) ∧ Stt w0 ao ts cap p w' (if opAt (nxt ts k).t f n = 0 then k else k + 1) nv acc o ∧ Fr w w' p none := by
  obtain ⟨R, hR⟩ : ∃ R, R = opAt (nxt ts k).t f n := ⟨_, rfl⟩
  rw [← hR]
  have HR : Hid (R = opAt (nxt ts k).t f n) := hR
  clear hR
  obtain ⟨q, hq⟩ : ∃ q, q = if R = 0 then k else k + 1 := ⟨_, rfl⟩
  rw [← hq]
  have HQ : Hid (q = if R = 0 then k else k + 1) := hq
  have HL : Hid (L = (f : Int) + (n : Int) - 1) := hL
  clear hq hL
  go_enter Tryz.func199, Tryz.ntmps199
  go_wp2
  go_loopw [7] (fun r wi => ∃ j : Nat, r = .int .i64 (j : Int) ∧ f ≤ j ∧ j ≤ f + n ∧ Hid (Stt w0 ao ts cap p wi k nv acc o) ∧ Fr w wi p none ∧ Hid (R = opAt (nxt ts k).t j (f + n - j))) (fun r _ => 19 - (intOf r).toNat)
  case atStart => exact ⟨f, rfl, Nat.le_refl _, by omega, S, Fr.refl _ _ _, by show R = _; rw [HR.out]; congr 1; omega⟩
  case round =>
    obtain ⟨j, rfl, hj1, hj2, HS, g, hH⟩ := hrel
    by_cases hlt : j < f + n
    · have hlt' : (j : Int) ≤ L := by rw [HL.out]; omega
      have j0 : (0 : Int) ≤ (j : Int) := by omega
      have j1 : (j : Int) < 19 := by omega
      have hsg := E.sg.later HS.out.low j (by omega)
      have T := took_any w0 p ao ts cap k o nv acc (sgn j) wr E (sgn_pos j (by omega) (by omega)) HS.out
      have hne : f + n - j = (f + n - (j + 1)) + 1 := by omega
      have hstep : R = if (nxt ts k).t == sgn j then j else opAt (nxt ts k).t (j + 1) (f + n - (j + 1)) := by
        rw [hH.out, hne]; rfl
      have hgl := World.block_lt_of_cell? wr _ hsg
      clear hH HS E S HR
      cases hb : ((nxt ts k).t == sgn j) with
      | true =>
        rw [hb] at T hstep
        simp only [↓reduceIte] at T
        have HF : Hid (R = j) := by show R = j; rw [hstep, if_pos rfl]
        clear hstep hb
        go_wp2_with (go_at_call 249; refine T.mono ?_; rintro e w2 ⟨rfl, S2, g2⟩)
        go_ret
        have hR := HF.out
        have hq := HQ.out
        rw [if_neg (by omega)] at hq
        subst hq
        exact ⟨by rw [hR]; rfl, S2, g.trans g2 fun _ h => .inl h⟩
      | false =>
        rw [hb] at T hstep
        simp only [Bool.false_eq_true, ↓reduceIte] at T
        have HF : Hid (R = opAt (nxt ts k).t (j + 1) (f + n - (j + 1))) := by show R = _; rw [hstep, if_neg (by simp)]
        clear hstep hb
        go_wp2_with (go_at_call 249; refine T.mono ?_; rintro e w2 ⟨rfl, S2, g2⟩)
        exact ⟨⟨j + 1, by rw [cst1], by omega, by omega, S2, g.trans g2 fun _ h => .inl h, HF⟩, by simp [intOf]; omega⟩
    · have hlt' : ¬ (j : Int) ≤ L := by rw [HL.out]; omega
      have HF : Hid (R = 0) := by
        show R = 0
        rw [hH.out, show f + n - j = 0 by omega]; rfl
      clear hH E S HR
      go_wp2
      go_ret
      have hR := HF.out
      have hq := HQ.out
      rw [if_pos hR] at hq
      subst hq
      exact ⟨by rw [hR]; rfl, HS.out, g⟩
end Go.Proofs.YtclhmmgdhagloaaGreatDoor
