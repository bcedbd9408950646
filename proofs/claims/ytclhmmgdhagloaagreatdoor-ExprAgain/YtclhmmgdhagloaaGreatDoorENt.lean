/-
  The reader of expressions: expression, andPart, sum, term, notPart, comparison, nullBehindIs, enclosed, ended, each over what it calls.
-/
import Derived.Test.YtclhmmgdhagloaaGreatDoorEWit
namespace Go.Proofs.YtclhmmgdhagloaaGreatDoor
open Go.RowKit Go.Shelf
attribute [local go_sem] cell?_more frozen?_more setCell_more more_lt more_more more_drew more_drewN setCell_drewN alloc_drewN

theorem ex_step (w0 : World) (ao : Option Addr) (ts : List Ti) (cap p o : Nat) (E : Env w0 ao ts) (V : List UInt8 → Option Va) (n k : Nat) (acc : List Nd) (nv : Value) (w : World) (S : Stt w0 ao ts cap p w k nv acc o)
    (H : ∀ k' acc nv w, Stt w0 ao ts cap p w k' nv acc o → k ≤ k' → Does w0 ao ts cap p 137 o k' acc nv w (rdx (nxt ts) V (ts.length + 1) n .an k' acc o)) :
    Does w0 ao ts cap p 74 o k acc nv w (rdx (nxt ts) V (ts.length + 1) (n + 1) .ex k acc o) := by
  have D := steps_an w0 ao ts cap p o E 18 1 18 (by decide) (by decide) (by decide) (fun k acc => rdx (nxt ts) V (ts.length + 1) n .an k acc o) k H k acc nv w S (Nat.le_refl _) (ts.length + 1) (by omega)
  show Does w0 ao ts cap p 74 o k acc nv w (stepsF (nxt ts) 18 1 (fun k acc => rdx (nxt ts) V (ts.length + 1) n .an k acc o) (ts.length + 1) 0 k acc)
  generalize stepsF (nxt ts) 18 1 (fun k acc => rdx (nxt ts) V (ts.length + 1) n .an k acc o) (ts.length + 1) 0 k acc = R at D ⊢
  have D' : Calls Tryz.prog 136 #[.pointer (some ⟨p, 0, none⟩), .int .i64 18, .int .i64 18, .func (.func 137) #[.pointer (some ⟨p, 0, none⟩)] #[]] w fun e w' =>
      e = .returned (.int .i64 (R.1 : Int)) ∧ (∃ nv', Stt w0 ao ts cap p w' R.2.1 nv' R.2.2 o ∧ Goes p w w' nv nv') ∧ k ≤ R.2.1 := D
  clear D S H E
  unfold Does
  obtain ⟨re, rk, rc⟩ := R
  simp only at D' ⊢
  go_enter Tryz.func74, Tryz.ntmps74
  go_wp2_with (go_at_call 136; refine D'.mono ?_; rintro e w1 ⟨rfl, h1, h2⟩)
  go_ret
  exact ⟨rfl, h1, h2⟩

theorem an_step (w0 : World) (ao : Option Addr) (ts : List Ti) (cap p o : Nat) (E : Env w0 ao ts) (V : List UInt8 → Option Va) (n k : Nat) (acc : List Nd) (nv : Value) (w : World) (S : Stt w0 ao ts cap p w k nv acc o)
    (H : ∀ k' acc nv w, Stt w0 ao ts cap p w k' nv acc o → k ≤ k' → Does w0 ao ts cap p 200 o k' acc nv w (rdx (nxt ts) V (ts.length + 1) n .no k' acc o)) :
    Does w0 ao ts cap p 137 o k acc nv w (rdx (nxt ts) V (ts.length + 1) (n + 1) .an k acc o) := by
  have D := steps_no w0 ao ts cap p o E 17 1 17 (by decide) (by decide) (by decide) (fun k acc => rdx (nxt ts) V (ts.length + 1) n .no k acc o) k H k acc nv w S (Nat.le_refl _) (ts.length + 1) (by omega)
  show Does w0 ao ts cap p 137 o k acc nv w (stepsF (nxt ts) 17 1 (fun k acc => rdx (nxt ts) V (ts.length + 1) n .no k acc o) (ts.length + 1) 0 k acc)
  generalize stepsF (nxt ts) 17 1 (fun k acc => rdx (nxt ts) V (ts.length + 1) n .no k acc o) (ts.length + 1) 0 k acc = R at D ⊢
  have D' : Calls Tryz.prog 136 #[.pointer (some ⟨p, 0, none⟩), .int .i64 17, .int .i64 17, .func (.func 200) #[.pointer (some ⟨p, 0, none⟩)] #[]] w fun e w' =>
      e = .returned (.int .i64 (R.1 : Int)) ∧ (∃ nv', Stt w0 ao ts cap p w' R.2.1 nv' R.2.2 o ∧ Goes p w w' nv nv') ∧ k ≤ R.2.1 := D
  clear D S H E
  unfold Does
  obtain ⟨re, rk, rc⟩ := R
  simp only at D' ⊢
  go_enter Tryz.func137, Tryz.ntmps137
  go_wp2_with (go_at_call 136; refine D'.mono ?_; rintro e w1 ⟨rfl, h1, h2⟩)
  go_ret
  exact ⟨rfl, h1, h2⟩

theorem su_step (w0 : World) (ao : Option Addr) (ts : List Ti) (cap p o : Nat) (E : Env w0 ao ts) (V : List UInt8 → Option Va) (n k : Nat) (acc : List Nd) (nv : Value) (w : World) (S : Stt w0 ao ts cap p w k nv acc o)
    (H : ∀ k' acc nv w, Stt w0 ao ts cap p w k' nv acc o → k ≤ k' → Does w0 ao ts cap p 300 o k' acc nv w (rdx (nxt ts) V (ts.length + 1) n .te k' acc o)) :
    Does w0 ao ts cap p 275 o k acc nv w (rdx (nxt ts) V (ts.length + 1) (n + 1) .su k acc o) := by
  have D := steps_te w0 ao ts cap p o E 9 2 10 (by decide) (by decide) (by decide) (fun k acc => rdx (nxt ts) V (ts.length + 1) n .te k acc o) k H k acc nv w S (Nat.le_refl _) (ts.length + 1) (by omega)
  show Does w0 ao ts cap p 275 o k acc nv w (stepsF (nxt ts) 9 2 (fun k acc => rdx (nxt ts) V (ts.length + 1) n .te k acc o) (ts.length + 1) 0 k acc)
  generalize stepsF (nxt ts) 9 2 (fun k acc => rdx (nxt ts) V (ts.length + 1) n .te k acc o) (ts.length + 1) 0 k acc = R at D ⊢
  have D' : Calls Tryz.prog 136 #[.pointer (some ⟨p, 0, none⟩), .int .i64 9, .int .i64 10, .func (.func 300) #[.pointer (some ⟨p, 0, none⟩)] #[]] w fun e w' =>
      e = .returned (.int .i64 (R.1 : Int)) ∧ (∃ nv', Stt w0 ao ts cap p w' R.2.1 nv' R.2.2 o ∧ Goes p w w' nv nv') ∧ k ≤ R.2.1 := D
  clear D S H E
  unfold Does
  obtain ⟨re, rk, rc⟩ := R
  simp only at D' ⊢
  go_enter Tryz.func275, Tryz.ntmps275
  go_wp2_with (go_at_call 136; refine D'.mono ?_; rintro e w1 ⟨rfl, h1, h2⟩)
  go_ret
  exact ⟨rfl, h1, h2⟩

theorem te_step (w0 : World) (ao : Option Addr) (ts : List Ti) (cap p o : Nat) (E : Env w0 ao ts) (V : List UInt8 → Option Va) (n k : Nat) (acc : List Nd) (nv : Value) (w : World) (S : Stt w0 ao ts cap p w k nv acc o)
    (H : ∀ k' acc nv w, Stt w0 ao ts cap p w k' nv acc o → k ≤ k' → Does w0 ao ts cap p 314 o k' acc nv w (rdx (nxt ts) V (ts.length + 1) n .un k' acc o)) :
    Does w0 ao ts cap p 300 o k acc nv w (rdx (nxt ts) V (ts.length + 1) (n + 1) .te k acc o) := by
  have D := steps_un w0 ao ts cap p o E 6 3 8 (by decide) (by decide) (by decide) (fun k acc => rdx (nxt ts) V (ts.length + 1) n .un k acc o) k H k acc nv w S (Nat.le_refl _) (ts.length + 1) (by omega)
  show Does w0 ao ts cap p 300 o k acc nv w (stepsF (nxt ts) 6 3 (fun k acc => rdx (nxt ts) V (ts.length + 1) n .un k acc o) (ts.length + 1) 0 k acc)
  generalize stepsF (nxt ts) 6 3 (fun k acc => rdx (nxt ts) V (ts.length + 1) n .un k acc o) (ts.length + 1) 0 k acc = R at D ⊢
  have D' : Calls Tryz.prog 136 #[.pointer (some ⟨p, 0, none⟩), .int .i64 6, .int .i64 8, .func (.func 314) #[.pointer (some ⟨p, 0, none⟩)] #[]] w fun e w' =>
      e = .returned (.int .i64 (R.1 : Int)) ∧ (∃ nv', Stt w0 ao ts cap p w' R.2.1 nv' R.2.2 o ∧ Goes p w w' nv nv') ∧ k ≤ R.2.1 := D
  clear D S H E
  unfold Does
  obtain ⟨re, rk, rc⟩ := R
  simp only at D' ⊢
  go_enter Tryz.func300, Tryz.ntmps300
  go_wp2_with (go_at_call 136; refine D'.mono ?_; rintro e w1 ⟨rfl, h1, h2⟩)
  go_ret
  exact ⟨rfl, h1, h2⟩

/-- took at a text, and what is known of the next token. -/
theorem took_yes (w0 : World) (ao : Option Addr) (ts : List Ti) (cap p k o : Nat) (nv : Value) (acc : List Nd) (s : List UInt8) (w : World) (E : Env w0 ao ts) (hs : s ≠ []) (S : Stt w0 ao ts cap p w k nv acc o) (h : ((nxt ts k).t == s) = true) :
    Calls Tryz.prog 249 #[.pointer (some ⟨p, 0, none⟩), .string ⟨s.toArray⟩] w fun e w' => e = .returned (.bool true) ∧ Stt w0 ao ts cap p w' (k + 1) nv acc o ∧ Goes p w w' nv nv := by
  have := took_any w0 p ao ts cap k o nv acc s w E hs S
  rw [h] at this
  simp only [↓reduceIte] at this
  exact this.mono fun e w' ⟨h1, h2, h3⟩ => ⟨h1, h2, Goes.of_fr h3 nv⟩
theorem took_no (w0 : World) (ao : Option Addr) (ts : List Ti) (cap p k o : Nat) (nv : Value) (acc : List Nd) (s : List UInt8) (w : World) (E : Env w0 ao ts) (hs : s ≠ []) (S : Stt w0 ao ts cap p w k nv acc o) (h : ((nxt ts k).t == s) = false) :
    Calls Tryz.prog 249 #[.pointer (some ⟨p, 0, none⟩), .string ⟨s.toArray⟩] w fun e w' => e = .returned (.bool false) ∧ Stt w0 ao ts cap p w' k nv acc o ∧ Goes p w w' nv nv := by
  have := took_any w0 p ao ts cap k o nv acc s w E hs S
  rw [h] at this
  simp only [Bool.false_eq_true, ↓reduceIte] at this
  exact this.mono fun e w' ⟨h1, h2, h3⟩ => ⟨h1, h2, Goes.of_fr h3 nv⟩

theorem ended_any (w0 : World) (ao : Option Addr) (ts : List Ti) (cap p o k : Nat) (E : Env w0 ao ts) (acc : List Nd) (nv : Value) (w : World) (S : Stt w0 ao ts cap p w k nv acc o) :
    Does w0 ao ts cap p 338 o k acc nv w (if (nxt ts k).t == [41] then (0, k + 1, acc) else (30, k, acc)) := by
  unfold Does
  cases h : ((nxt ts k).t == [41]) with
  | true =>
    simp only [↓reduceIte]
    have T := took_yes w0 ao ts cap p k o nv acc [41] w E (by decide) S h
    clear S h E
    go_enter Tryz.func338, Tryz.ntmps338
    go_wp2_with (go_at_call 249; refine T.mono ?_; rintro e w1 ⟨rfl, S1, g1⟩)
    go_ret
    exact ⟨rfl, ⟨nv, S1, g1⟩, by omega⟩
  | false =>
    simp only [Bool.false_eq_true, ↓reduceIte]
    have T := took_no w0 ao ts cap p k o nv acc [41] w E (by decide) S h
    clear S h E
    go_enter Tryz.func338, Tryz.ntmps338
    go_wp2_with (go_at_call 249; refine T.mono ?_; rintro e w1 ⟨rfl, S1, g1⟩)
    go_ret
    exact ⟨rfl, ⟨nv, S1, g1⟩, Nat.le_refl _⟩

theorem en_step (w0 : World) (ao : Option Addr) (ts : List Ti) (cap p o : Nat) (E : Env w0 ao ts) (V : List UInt8 → Option Va) (n k : Nat) (acc : List Nd) (nv : Value) (w : World) 
    (H : Does w0 ao ts cap p 74 o k acc nv w (rdx (nxt ts) V (ts.length + 1) n .ex k acc o)) :
    Does w0 ao ts cap p 329 o k acc nv w (rdx (nxt ts) V (ts.length + 1) (n + 1) .en k acc o) := by
  have e0 : rdx (nxt ts) V (ts.length + 1) (n + 1) .en k acc o = (if (rdx (nxt ts) V (ts.length + 1) n .ex k acc o).1 = 0 then (if (nxt ts (rdx (nxt ts) V (ts.length + 1) n .ex k acc o).2.1).t == [41] then (0, (rdx (nxt ts) V (ts.length + 1) n .ex k acc o).2.1 + 1, (rdx (nxt ts) V (ts.length + 1) n .ex k acc o).2.2) else (30, (rdx (nxt ts) V (ts.length + 1) n .ex k acc o).2.1, (rdx (nxt ts) V (ts.length + 1) n .ex k acc o).2.2)) else rdx (nxt ts) V (ts.length + 1) n .ex k acc o) := rfl
  rw [e0]
  clear e0
  generalize rdx (nxt ts) V (ts.length + 1) n .ex k acc o = r at H ⊢
  obtain ⟨re, rk, rc⟩ := r
  unfold Does at H ⊢
  simp only at H ⊢
  by_cases hre : re = 0
  · subst hre
    simp only [↓reduceIte]
    obtain ⟨q, hq⟩ : ∃ q, q = (if (nxt ts rk).t == [41] then (0, rk + 1, rc) else (30, rk, rc) : Rz) := ⟨_, rfl⟩
    have EN : Hid (∀ n1 W, Stt w0 ao ts cap p W rk n1 rc o → Does w0 ao ts cap p 338 o rk rc n1 W q) := fun n1 W h => by rw [hq]; exact ended_any w0 ao ts cap p o rk E rc n1 W h
    rw [← hq]
    clear hq E
    obtain ⟨qe, qk, qc⟩ := q
    simp only
    go_enter Tryz.func329, Tryz.ntmps329
    go_wp2_with (first
      | (go_at_call 74; refine H.mono ?_; rintro e w1 ⟨rfl, ⟨n1, S1, g1⟩, hk1⟩; have EN1 := EN.out n1 w1 S1; unfold Does at EN1; simp only at EN1)
      | (go_at_call 338; refine EN1.mono ?_; rintro e w2 ⟨rfl, ⟨n2, S2, g2⟩, hk2⟩))
    go_ret
    exact ⟨rfl, ⟨n2, S2, g1.trans g2⟩, by omega⟩
  · have hre' : ¬ (re : Int) = 0 := by omega
    simp only [if_neg hre]
    clear E
    go_enter Tryz.func329, Tryz.ntmps329
    go_wp2_with (go_at_call 74; refine H.mono ?_; rintro e w1 ⟨rfl, ⟨n1, S1, g1⟩, hk1⟩)
    go_ret
    exact ⟨rfl, ⟨n1, S1, g1⟩, hk1⟩

theorem no_step (w0 : World) (ao : Option Addr) (ts : List Ti) (cap p o : Nat) (E : Env w0 ao ts) (V : List UInt8 → Option Va) (n k : Nat) (acc : List Nd) (nv : Value) (w : World) (S : Stt w0 ao ts cap p w k nv acc o)
    (H1 : o < 64 → ∀ W, Stt w0 ao ts cap p W (k + 1) nv acc (o + 1) → Does w0 ao ts cap p 200 (o + 1) (k + 1) acc nv W (rdx (nxt ts) V (ts.length + 1) n .no (k + 1) acc (o + 1)))
    (H2 : ∀ W, Stt w0 ao ts cap p W k nv acc o → Does w0 ao ts cap p 250 o k acc nv W (rdx (nxt ts) V (ts.length + 1) n .co k acc o)) :
    Does w0 ao ts cap p 200 o k acc nv w (rdx (nxt ts) V (ts.length + 1) (n + 1) .no k acc o) := by
  have e0 : rdx (nxt ts) V (ts.length + 1) (n + 1) .no k acc o = (if (nxt ts k).t == wNot then (if o = 64 then (38, k + 1, putN acc (opX 4)) else ((rdx (nxt ts) V (ts.length + 1) n .no (k + 1) acc (o + 1)).1, (rdx (nxt ts) V (ts.length + 1) n .no (k + 1) acc (o + 1)).2.1, putN (rdx (nxt ts) V (ts.length + 1) n .no (k + 1) acc (o + 1)).2.2 (opX 4))) else rdx (nxt ts) V (ts.length + 1) n .co k acc o) := rfl
  rw [e0]
  clear e0
  generalize rdx (nxt ts) V (ts.length + 1) n .no (k + 1) acc (o + 1) = r1 at H1 ⊢
  generalize rdx (nxt ts) V (ts.length + 1) n .co k acc o = r2 at H2 ⊢
  cases h : ((nxt ts k).t == wNot) with
  | false =>
    simp only [Bool.false_eq_true, ↓reduceIte]
    have T := took_no w0 ao ts cap p k o nv acc wNot w E (by decide) S h
    have HH : Hid (∀ W, Stt w0 ao ts cap p W k nv acc o → Does w0 ao ts cap p 250 o k acc nv W r2) := H2
    clear H1 H2 S h E
    obtain ⟨re, rk, rc⟩ := r2
    unfold Does
    simp only
    go_enter Tryz.func200, Tryz.ntmps200
    go_wp2_with (first
      | (go_at_call 249; refine T.mono ?_; rintro e w1 ⟨rfl, S1, g1⟩; have C := HH.out w1 S1; unfold Does at C; simp only at C)
      | (go_at_call 250; refine C.mono ?_; rintro e w2 ⟨rfl, ⟨n2, S2, g2⟩, hk2⟩))
    go_ret
    exact ⟨rfl, ⟨n2, S2, g1.trans g2⟩, hk2⟩
  | true =>
    simp only [↓reduceIte]
    have T := took_yes w0 ao ts cap p k o nv acc wNot w E (by decide) S h
    obtain ⟨q, hq⟩ : ∃ q, q = (if o = 64 then (38, k + 1, acc) else r1 : Rz) := ⟨_, rfl⟩
    have WI : Hid (∀ W, Stt w0 ao ts cap p W (k + 1) nv acc o → Calls Tryz.prog 251 #[.pointer (some ⟨p, 0, none⟩), .func (.func 200) #[.pointer (some ⟨p, 0, none⟩)] #[]] W fun e w' =>
      e = .returned (.int .i64 (q.1 : Int)) ∧ (∃ nv', Stt w0 ao ts cap p w' q.2.1 nv' q.2.2 o ∧ Goes p W w' nv nv') ∧ k + 1 ≤ q.2.1) := fun W h => by rw [hq]; exact within_no w0 ao ts cap p o r1 (k + 1) acc nv W h H1
    have e1 : (if o = 64 then (38, k + 1, putN acc (opX 4)) else (r1.1, r1.2.1, putN r1.2.2 (opX 4)) : Rz) = (q.1, q.2.1, putN q.2.2 (opX 4)) := by
      rw [hq]; split <;> rfl
    rw [e1]
    clear e1 hq H1 H2 S h E
    obtain ⟨qe, qk, qc⟩ := q
    unfold Does
    simp only at WI ⊢
    go_enter Tryz.func200, Tryz.ntmps200
    go_wp2_with (first
      | (go_at_call 249; refine T.mono ?_; rintro e w1 ⟨rfl, S1, g1⟩; have C := WI.out w1 S1)
      | (go_at_call 251; refine C.mono ?_; rintro e w2 ⟨rfl, ⟨n2, S2, g2⟩, hk2⟩; have PU : Calls Tryz.prog 198 #[.pointer (some ⟨p, 0, none⟩), .agg #[.int .i64 4, .string ⟨#[]⟩, .string ⟨#[]⟩, .int .i64 0, .int .i64 0, .int .i64 0, .string ⟨#[]⟩, .int .i64 0]] w2 _ := put_any w0 p ao ts cap qk o n2 qc (opX 4) w2 S2)
      | (go_at_call 198; refine PU.mono ?_; rintro e w3 ⟨rfl, n3, S3, g3⟩))
    go_ret
    exact ⟨rfl, ⟨n3, S3, (g1.trans g2).trans g3⟩, by omega⟩

theorem null_any (w0 : World) (ao : Option Addr) (ts : List Ti) (cap p o : Nat) (E : Env w0 ao ts) (k : Nat) (acc : List Nd) (nv : Value) (w : World) (S : Stt w0 ao ts cap p w k nv acc o) :
    Does w0 ao ts cap p 276 o k acc nv w (nullF (nxt ts) k acc) := by
  unfold nullF
  cases h : ((nxt ts k).t == wNot) with
  | true =>
    simp only [↓reduceIte]
    have T := took_yes w0 ao ts cap p k o nv acc wNot w E (by decide) S h
    cases h2 : ((nxt ts (k + 1)).t == wNull) with
    | true =>
      simp only [↓reduceIte]
      have T2 : Hid (∀ W, Stt w0 ao ts cap p W (k + 1) nv acc o → _) := fun W hS => took_yes w0 ao ts cap p (k + 1) o nv acc wNull W E (by decide) hS h2
      clear S h h2 E
      unfold Does
      simp only
      go_enter Tryz.func276, Tryz.ntmps276
      go_wp2_with fail
      refine T.mono ?_
      rintro e w1 ⟨rfl, S1, g1⟩
      have T3 := T2.out w1 S1
      go_wp2_with fail
      refine T3.mono ?_
      rintro e w2 ⟨rfl, S2, g2⟩
      have PU : Calls Tryz.prog 198 #[.pointer (some ⟨p, 0, none⟩), .agg #[.int .i64 5, .string ⟨#[]⟩, .string ⟨#[]⟩, .int .i64 0, .int .i64 0, .int .i64 0, .string ⟨#[]⟩, .int .i64 0]] w2 _ := put_any w0 p ao ts cap (k + 2) o nv acc (opX 5) w2 S2
      go_wp2_with fail
      refine PU.mono ?_
      rintro e w3 ⟨rfl, n3, S3, g3⟩
      have PV : Calls Tryz.prog 198 #[.pointer (some ⟨p, 0, none⟩), .agg #[.int .i64 4, .string ⟨#[]⟩, .string ⟨#[]⟩, .int .i64 0, .int .i64 0, .int .i64 0, .string ⟨#[]⟩, .int .i64 0]] w3 _ := put_any w0 p ao ts cap (k + 2) o n3 (putN acc (opX 5)) (opX 4) w3 S3
      go_wp2_with fail
      refine PV.mono ?_
      rintro e w4 ⟨rfl, n4, S4, g4⟩
      go_wp2
      go_ret
      exact ⟨rfl, ⟨n4, S4, ((g1.trans g2).trans g3).trans g4⟩, by omega⟩
    | false =>
      simp only [Bool.false_eq_true, ↓reduceIte]
      have T2 : Hid (∀ W, Stt w0 ao ts cap p W (k + 1) nv acc o → _) := fun W hS => took_no w0 ao ts cap p (k + 1) o nv acc wNull W E (by decide) hS h2
      clear S h h2 E
      unfold Does
      simp only
      go_enter Tryz.func276, Tryz.ntmps276
      go_wp2_with fail
      refine T.mono ?_
      rintro e w1 ⟨rfl, S1, g1⟩
      have T3 := T2.out w1 S1
      go_wp2_with fail
      refine T3.mono ?_
      rintro e w2 ⟨rfl, S2, g2⟩
      go_wp2
      go_ret
      exact ⟨rfl, ⟨nv, S2, g1.trans g2⟩, by omega⟩
  | false =>
    simp only [Bool.false_eq_true, ↓reduceIte]
    have T := took_no w0 ao ts cap p k o nv acc wNot w E (by decide) S h
    cases h2 : ((nxt ts k).t == wNull) with
    | true =>
      simp only [↓reduceIte]
      have T2 : Hid (∀ W, Stt w0 ao ts cap p W k nv acc o → _) := fun W hS => took_yes w0 ao ts cap p k o nv acc wNull W E (by decide) hS h2
      clear S h h2 E
      unfold Does
      simp only
      go_enter Tryz.func276, Tryz.ntmps276
      go_wp2_with fail
      refine T.mono ?_
      rintro e w1 ⟨rfl, S1, g1⟩
      have T3 := T2.out w1 S1
      go_wp2_with fail
      refine T3.mono ?_
      rintro e w2 ⟨rfl, S2, g2⟩
      have PU : Calls Tryz.prog 198 #[.pointer (some ⟨p, 0, none⟩), .agg #[.int .i64 5, .string ⟨#[]⟩, .string ⟨#[]⟩, .int .i64 0, .int .i64 0, .int .i64 0, .string ⟨#[]⟩, .int .i64 0]] w2 _ := put_any w0 p ao ts cap (k + 1) o nv acc (opX 5) w2 S2
      go_wp2_with fail
      refine PU.mono ?_
      rintro e w3 ⟨rfl, n3, S3, g3⟩
      go_wp2
      go_ret
      exact ⟨rfl, ⟨n3, S3, (g1.trans g2).trans g3⟩, by omega⟩
    | false =>
      simp only [Bool.false_eq_true, ↓reduceIte]
      have T2 : Hid (∀ W, Stt w0 ao ts cap p W k nv acc o → _) := fun W hS => took_no w0 ao ts cap p k o nv acc wNull W E (by decide) hS h2
      clear S h h2 E
      unfold Does
      simp only
      go_enter Tryz.func276, Tryz.ntmps276
      go_wp2_with fail
      refine T.mono ?_
      rintro e w1 ⟨rfl, S1, g1⟩
      have T3 := T2.out w1 S1
      go_wp2_with fail
      refine T3.mono ?_
      rintro e w2 ⟨rfl, S2, g2⟩
      go_wp2
      go_ret
      exact ⟨rfl, ⟨nv, S2, g1.trans g2⟩, Nat.le_refl _⟩
theorem co_step (w0 : World) (ao : Option Addr) (ts : List Ti) (cap p o : Nat) (E : Env w0 ao ts) (V : List UInt8 → Option Va) (n k : Nat) (acc : List Nd) (nv : Value) (w : World)
    (H1 : Does w0 ao ts cap p 275 o k acc nv w (rdx (nxt ts) V (ts.length + 1) n .su k acc o))
    (H2 : ∀ k' acc' nv' W, k < k' → Stt w0 ao ts cap p W k' nv' acc' o → Does w0 ao ts cap p 275 o k' acc' nv' W (rdx (nxt ts) V (ts.length + 1) n .su k' acc' o)) :
    Does w0 ao ts cap p 250 o k acc nv w (rdx (nxt ts) V (ts.length + 1) (n + 1) .co k acc o) := by
  have e0 : rdx (nxt ts) V (ts.length + 1) (n + 1) .co k acc o = (if (rdx (nxt ts) V (ts.length + 1) n .su k acc o).1 = 0 then
      (if (nxt ts (rdx (nxt ts) V (ts.length + 1) n .su k acc o).2.1).t == wIs then nullF (nxt ts) ((rdx (nxt ts) V (ts.length + 1) n .su k acc o).2.1 + 1) (rdx (nxt ts) V (ts.length + 1) n .su k acc o).2.2
       else if opAt (nxt ts (rdx (nxt ts) V (ts.length + 1) n .su k acc o).2.1).t 11 6 = 0 then rdx (nxt ts) V (ts.length + 1) n .su k acc o
       else ((rdx (nxt ts) V (ts.length + 1) n .su ((rdx (nxt ts) V (ts.length + 1) n .su k acc o).2.1 + 1) (rdx (nxt ts) V (ts.length + 1) n .su k acc o).2.2 o).1, (rdx (nxt ts) V (ts.length + 1) n .su ((rdx (nxt ts) V (ts.length + 1) n .su k acc o).2.1 + 1) (rdx (nxt ts) V (ts.length + 1) n .su k acc o).2.2 o).2.1,
         putN (rdx (nxt ts) V (ts.length + 1) n .su ((rdx (nxt ts) V (ts.length + 1) n .su k acc o).2.1 + 1) (rdx (nxt ts) V (ts.length + 1) n .su k acc o).2.2 o).2.2 (opX (opAt (nxt ts (rdx (nxt ts) V (ts.length + 1) n .su k acc o).2.1).t 11 6))))
    else rdx (nxt ts) V (ts.length + 1) n .su k acc o) := rfl
  rw [e0]
  clear e0
  generalize rdx (nxt ts) V (ts.length + 1) n .su k acc o = r at H1 ⊢
  obtain ⟨re, rk, rc⟩ := r
  unfold Does at H1
  simp only at H1 ⊢
  by_cases hre : re = 0
  case neg =>
    have hre' : ¬ (re : Int) = 0 := by omega
    simp only [if_neg hre]
    clear E H2
    unfold Does
    simp only
    go_enter Tryz.func250, Tryz.ntmps250
    go_wp2_with (go_at_call 275; refine H1.mono ?_; rintro e w1 ⟨rfl, ⟨n1, S1, g1⟩, hk1⟩)
    go_ret
    exact ⟨rfl, ⟨n1, S1, g1⟩, hk1⟩
  subst hre
  simp only [↓reduceIte]
  cases h : ((nxt ts rk).t == wIs) with
  | true =>
    simp only [↓reduceIte]
    have T : Hid (∀ n1 W, Stt w0 ao ts cap p W rk n1 rc o → _) := fun n1 W hS => took_yes w0 ao ts cap p rk o n1 rc wIs W E (by decide) hS h
    have NU : Hid (∀ n1 W, Stt w0 ao ts cap p W (rk + 1) n1 rc o → Does w0 ao ts cap p 276 o (rk + 1) rc n1 W (nullF (nxt ts) (rk + 1) rc)) := fun n1 W hS => null_any w0 ao ts cap p o E (rk + 1) rc n1 W hS
    generalize nullF (nxt ts) (rk + 1) rc = q at NU ⊢
    obtain ⟨qe, qk, qc⟩ := q
    clear E H2 h
    unfold Does
    simp only
    go_enter Tryz.func250, Tryz.ntmps250
    go_wp2_with fail
    refine H1.mono ?_
    rintro e w1 ⟨rfl, ⟨n1, S1, g1⟩, hk1⟩
    have T1 := T.out n1 w1 S1
    go_wp2_with fail
    refine T1.mono ?_
    rintro e w2 ⟨rfl, S2, g2⟩
    have N1 := NU.out n1 w2 S2
    unfold Does at N1
    simp only at N1
    go_wp2_with fail
    refine N1.mono ?_
    rintro e w3 ⟨rfl, ⟨n3, S3, g3⟩, hk3⟩
    go_wp2
    go_ret
    exact ⟨rfl, ⟨n3, S3, (g1.trans g2).trans g3⟩, by omega⟩
  | false =>
    simp only [Bool.false_eq_true, ↓reduceIte]
    have T : Hid (∀ n1 W, Stt w0 ao ts cap p W rk n1 rc o → _) := fun n1 W hS => took_no w0 ao ts cap p rk o n1 rc wIs W E (by decide) hS h
    have TO : Hid (∀ n1 W, Stt w0 ao ts cap p W rk n1 rc o → Calls Tryz.prog 199 #[.pointer (some ⟨p, 0, none⟩), .int .i64 11, .int .i64 16] W fun e w' => e = .returned (.int .i64 (opAt (nxt ts rk).t 11 6 : Int)) ∧ Stt w0 ao ts cap p w' (if opAt (nxt ts rk).t 11 6 = 0 then rk else rk + 1) n1 rc o ∧ Fr W w' p none) := fun n1 W hS => tookOp_any w0 p ao ts cap rk o n1 rc 11 6 16 W E (by decide) (by decide) (by decide) hS
    generalize opAt (nxt ts rk).t 11 6 = op at TO ⊢
    by_cases hop : op = 0
    · subst hop
      simp only [↓reduceIte] at TO ⊢
      clear E H2 h
      unfold Does
      simp only
      go_enter Tryz.func250, Tryz.ntmps250
      go_wp2_with fail
      refine H1.mono ?_
      rintro e w1 ⟨rfl, ⟨n1, S1, g1⟩, hk1⟩
      have T1 := T.out n1 w1 S1
      go_wp2_with fail
      refine T1.mono ?_
      rintro e w2 ⟨rfl, S2, g2⟩
      have T2 := TO.out n1 w2 S2
      go_wp2_with fail
      refine T2.mono ?_
      rintro e w3 ⟨rfl, S3, g3⟩
      go_wp2
      go_ret
      exact ⟨rfl, ⟨n1, S3, (g1.trans g2).trans (Goes.of_fr g3 n1)⟩, hk1⟩
    · have hop' : ((op : Int) == 0) = false := by rw [beq_eq_false_iff_ne]; omega
      simp only [if_neg hop] at TO ⊢
      have SU : Hid (∀ n1 W, k ≤ rk → Stt w0 ao ts cap p W (rk + 1) n1 rc o → Does w0 ao ts cap p 275 o (rk + 1) rc n1 W (rdx (nxt ts) V (ts.length + 1) n .su (rk + 1) rc o)) := fun n1 W hk hS => H2 (rk + 1) rc n1 W (by omega) hS
      generalize rdx (nxt ts) V (ts.length + 1) n .su (rk + 1) rc o = q at SU ⊢
      obtain ⟨qe, qk, qc⟩ := q
      clear E H2 h
      unfold Does
      simp only
      go_enter Tryz.func250, Tryz.ntmps250
      go_wp2_with fail
      refine H1.mono ?_
      rintro e w1 ⟨rfl, ⟨n1, S1, g1⟩, hk1⟩
      have T1 := T.out n1 w1 S1
      go_wp2_with fail
      refine T1.mono ?_
      rintro e w2 ⟨rfl, S2, g2⟩
      have T2 := TO.out n1 w2 S2
      go_wp2_with fail
      refine T2.mono ?_
      rintro e w3 ⟨rfl, S3, g3⟩
      have SS := SU.out n1 w3 hk1 S3
      unfold Does at SS
      simp only at SS
      go_wp2_with fail
      refine SS.mono ?_
      rintro e w4 ⟨rfl, ⟨n4, S4, g4⟩, hk4⟩
      have PU : Calls Tryz.prog 198 #[.pointer (some ⟨p, 0, none⟩), .agg #[.int .i64 (op : Int), .string ⟨#[]⟩, .string ⟨#[]⟩, .int .i64 0, .int .i64 0, .int .i64 0, .string ⟨#[]⟩, .int .i64 0]] w4 fun e w' => e = .returned (.tuple #[]) ∧ ∃ nv', Stt w0 ao ts cap p w' qk nv' (putN qc (opX op)) o ∧ Goes p w4 w' n4 nv' := put_any w0 p ao ts cap qk o n4 qc (opX op) w4 S4
      go_wp2_with fail
      refine PU.mono ?_
      rintro e w5 ⟨rfl, n5, S5, g5⟩
      go_wp2
      go_ret
      exact ⟨rfl, ⟨n5, S5, (((g1.trans g2).trans (Goes.of_fr g3 n1)).trans g4).trans g5⟩, by omega⟩
end Go.Proofs.YtclhmmgdhagloaaGreatDoor
