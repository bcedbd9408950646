/-
  The reader of expressions: within, a part that stands within one more of what can be open.
-/
import Derived.Test.YtclhmmgdhagloaaGreatDoorEStep4
namespace Go.Proofs.YtclhmmgdhagloaaGreatDoor
open Go.RowKit Go.Shelf
attribute [local go_sem] cell?_more frozen?_more setCell_more more_lt more_more more_drew more_drewN setCell_drewN alloc_drewN

theorem Stt.reopen {w0 : World} {ao : Option Addr} {ts : List Ti} {cap p : Nat} {w : World} {k : Nat} {nv : Value} {acc : List Nd} {o : Nat} (S : Stt w0 ao ts cap p w k nv acc o) (o' : Nat) (h : o' ≤ 64) :
    Stt w0 ao ts cap p (w.setCell ⟨p, 10, none⟩ (.int .i64 (o' : Int))) k nv acc o' := by
  have g := Fr.set w p 10 (.int .i64 (o' : Int)) none
  exact ⟨g.below S.low S.low.size S.hp (fun k e => by cases e), S.hp, rb_open S.rb _, S.own.fr S.rb g, S.kl, S.few, h⟩

set_option maxRecDepth 20000 in
set_option maxHeartbeats 4000000 in
theorem within_no (w0 : World) (ao : Option Addr) (ts : List Ti) (cap p o : Nat) (r : Rz) (k : Nat) (acc : List Nd) (nv : Value) (w : World) (S : Stt w0 ao ts cap p w k nv acc o)
    (H : o < 64 → ∀ W, Stt w0 ao ts cap p W k nv acc (o + 1) → Does w0 ao ts cap p 200 (o + 1) k acc nv W r) :
    Calls Tryz.prog 251 #[.pointer (some ⟨p, 0, none⟩), .func (.func 200) #[.pointer (some ⟨p, 0, none⟩)] #[]] w fun e w' =>
      e = .returned (.int .i64 (((if o = 64 then (38, k, acc) else r : Rz).1 : Nat) : Int)) ∧ (∃ nv', Stt w0 ao ts cap p w' (if o = 64 then (38, k, acc) else r : Rz).2.1 nv' (if o = 64 then (38, k, acc) else r : Rz).2.2 o ∧ Goes p w w' nv nv') ∧ k ≤ (if o = 64 then (38, k, acc) else r : Rz).2.1 := by
  have hl := S.rb.lt
  have c10 := S.rb.at 10
  have f10 := S.rb.free 10
  have hd := S.deep
  by_cases ho : o = 64
  · subst ho
    simp only [↓reduceIte]
    have HS : Hid (Stt w0 ao ts cap p w k nv acc 64) := S
    clear S H
    go_enter Tryz.func251, Tryz.ntmps251
    go_wp2
    go_ret
    exact ⟨rfl, ⟨nv, HS.out, Goes.refl _ _ _⟩, Nat.le_refl _⟩
  · simp only [if_neg ho]
    have ho' : ((o : Int) == 64) = false := by rw [beq_eq_false_iff_ne]; omega
    have ho2 : (o : Int) < 64 := by omega
    have S1 := S.reopen (o + 1) (by omega)
    have e1 : ((o + 1 : Nat) : Int) = (o : Int) + 1 := by omega
    have D := H (by omega) _ S1
    unfold Does at D
    rw [e1] at D
    have G1 : Goes p w (w.setCell ⟨p, 10, none⟩ (.int .i64 ((o : Int) + 1))) nv nv := Goes.of_fr (Fr.set w p 10 _ none) nv
    clear S H S1
    obtain ⟨re, rk, rc⟩ := r
    simp only at D ⊢
    go_enter Tryz.func251, Tryz.ntmps251
    go_wp2_with (go_at_call 200; refine D.mono ?_; rintro e w1 ⟨rfl, ⟨n1, S1, g1⟩, hk1⟩; have HS1 : Hid (Stt w0 ao ts cap p w1 rk n1 rc (o + 1)) := S1; have d10 := S1.rb.at 10; have q10 := S1.rb.free 10; have hl1 := S1.rb.lt; rw [e1] at d10; clear S1)
    go_ret
    refine ⟨rfl, ⟨n1, ?_, ?_⟩, hk1⟩
    · have := HS1.out.reopen o (by omega)
      exact this
    · exact (G1.trans g1).trans (Goes.of_fr (Fr.set w1 p 10 _ none) n1)

set_option maxRecDepth 20000 in
set_option maxHeartbeats 4000000 in
theorem within_un (w0 : World) (ao : Option Addr) (ts : List Ti) (cap p o : Nat) (r : Rz) (k : Nat) (acc : List Nd) (nv : Value) (w : World) (S : Stt w0 ao ts cap p w k nv acc o)
    (H : o < 64 → ∀ W, Stt w0 ao ts cap p W k nv acc (o + 1) → Does w0 ao ts cap p 314 (o + 1) k acc nv W r) :
    Calls Tryz.prog 251 #[.pointer (some ⟨p, 0, none⟩), .func (.func 314) #[.pointer (some ⟨p, 0, none⟩)] #[]] w fun e w' =>
      e = .returned (.int .i64 (((if o = 64 then (38, k, acc) else r : Rz).1 : Nat) : Int)) ∧ (∃ nv', Stt w0 ao ts cap p w' (if o = 64 then (38, k, acc) else r : Rz).2.1 nv' (if o = 64 then (38, k, acc) else r : Rz).2.2 o ∧ Goes p w w' nv nv') ∧ k ≤ (if o = 64 then (38, k, acc) else r : Rz).2.1 := by
  have hl := S.rb.lt
  have c10 := S.rb.at 10
  have f10 := S.rb.free 10
  have hd := S.deep
  by_cases ho : o = 64
  · subst ho
    simp only [↓reduceIte]
    have HS : Hid (Stt w0 ao ts cap p w k nv acc 64) := S
    clear S H
    go_enter Tryz.func251, Tryz.ntmps251
    go_wp2
    go_ret
    exact ⟨rfl, ⟨nv, HS.out, Goes.refl _ _ _⟩, Nat.le_refl _⟩
  · simp only [if_neg ho]
    have ho' : ((o : Int) == 64) = false := by rw [beq_eq_false_iff_ne]; omega
    have ho2 : (o : Int) < 64 := by omega
    have S1 := S.reopen (o + 1) (by omega)
    have e1 : ((o + 1 : Nat) : Int) = (o : Int) + 1 := by omega
    have D := H (by omega) _ S1
    unfold Does at D
    rw [e1] at D
    have G1 : Goes p w (w.setCell ⟨p, 10, none⟩ (.int .i64 ((o : Int) + 1))) nv nv := Goes.of_fr (Fr.set w p 10 _ none) nv
    clear S H S1
    obtain ⟨re, rk, rc⟩ := r
    simp only at D ⊢
    go_enter Tryz.func251, Tryz.ntmps251
    go_wp2_with (go_at_call 314; refine D.mono ?_; rintro e w1 ⟨rfl, ⟨n1, S1, g1⟩, hk1⟩; have HS1 : Hid (Stt w0 ao ts cap p w1 rk n1 rc (o + 1)) := S1; have d10 := S1.rb.at 10; have q10 := S1.rb.free 10; have hl1 := S1.rb.lt; rw [e1] at d10; clear S1)
    go_ret
    refine ⟨rfl, ⟨n1, ?_, ?_⟩, hk1⟩
    · have := HS1.out.reopen o (by omega)
      exact this
    · exact (G1.trans g1).trans (Goes.of_fr (Fr.set w1 p 10 _ none) n1)

set_option maxRecDepth 20000 in
set_option maxHeartbeats 4000000 in
theorem within_en (w0 : World) (ao : Option Addr) (ts : List Ti) (cap p o : Nat) (r : Rz) (k : Nat) (acc : List Nd) (nv : Value) (w : World) (S : Stt w0 ao ts cap p w k nv acc o)
    (H : o < 64 → ∀ W, Stt w0 ao ts cap p W k nv acc (o + 1) → Does w0 ao ts cap p 329 (o + 1) k acc nv W r) :
    Calls Tryz.prog 251 #[.pointer (some ⟨p, 0, none⟩), .func (.func 329) #[.pointer (some ⟨p, 0, none⟩)] #[]] w fun e w' =>
      e = .returned (.int .i64 (((if o = 64 then (38, k, acc) else r : Rz).1 : Nat) : Int)) ∧ (∃ nv', Stt w0 ao ts cap p w' (if o = 64 then (38, k, acc) else r : Rz).2.1 nv' (if o = 64 then (38, k, acc) else r : Rz).2.2 o ∧ Goes p w w' nv nv') ∧ k ≤ (if o = 64 then (38, k, acc) else r : Rz).2.1 := by
  have hl := S.rb.lt
  have c10 := S.rb.at 10
  have f10 := S.rb.free 10
  have hd := S.deep
  by_cases ho : o = 64
  · subst ho
    simp only [↓reduceIte]
    have HS : Hid (Stt w0 ao ts cap p w k nv acc 64) := S
    clear S H
    go_enter Tryz.func251, Tryz.ntmps251
    go_wp2
    go_ret
    exact ⟨rfl, ⟨nv, HS.out, Goes.refl _ _ _⟩, Nat.le_refl _⟩
  · simp only [if_neg ho]
    have ho' : ((o : Int) == 64) = false := by rw [beq_eq_false_iff_ne]; omega
    have ho2 : (o : Int) < 64 := by omega
    have S1 := S.reopen (o + 1) (by omega)
    have e1 : ((o + 1 : Nat) : Int) = (o : Int) + 1 := by omega
    have D := H (by omega) _ S1
    unfold Does at D
    rw [e1] at D
    have G1 : Goes p w (w.setCell ⟨p, 10, none⟩ (.int .i64 ((o : Int) + 1))) nv nv := Goes.of_fr (Fr.set w p 10 _ none) nv
    clear S H S1
    obtain ⟨re, rk, rc⟩ := r
    simp only at D ⊢
    go_enter Tryz.func251, Tryz.ntmps251
    go_wp2_with (go_at_call 329; refine D.mono ?_; rintro e w1 ⟨rfl, ⟨n1, S1, g1⟩, hk1⟩; have HS1 : Hid (Stt w0 ao ts cap p w1 rk n1 rc (o + 1)) := S1; have d10 := S1.rb.at 10; have q10 := S1.rb.free 10; have hl1 := S1.rb.lt; rw [e1] at d10; clear S1)
    go_ret
    refine ⟨rfl, ⟨n1, ?_, ?_⟩, hk1⟩
    · have := HS1.out.reopen o (by omega)
      exact this
    · exact (G1.trans g1).trans (Goes.of_fr (Fr.set w1 p 10 _ none) n1)

end Go.Proofs.YtclhmmgdhagloaaGreatDoor
