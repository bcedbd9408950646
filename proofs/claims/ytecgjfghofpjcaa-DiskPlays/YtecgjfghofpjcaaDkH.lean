/-
  The contracts of disk's Write, Load, and of Crash whatever was written.
-/
import Derived.Test.YtecgjfghofpjcaaDkG
namespace Go.Proofs.Ytecgjfghofpjcaa
open Go.RowKit Go.Maps

def Dk.hasP (d : Dk) (page : Int) : Bool := decide (0 ≤ page) && decide (page < d.count)

def Dk.load (d : Dk) (page : Int) : Int × List UInt8 := if d.off = true then (9, []) else if d.hasP page = false then (1, []) else (0, (over d.fresh d.old page).getD z512)

def Dk.write (d : Dk) (page : Int) (b : List UInt8) : Int × Dk := if d.off = true then (9, d) else if d.hasP page = false ∨ b.length ≠ 512 then (1, d) else if d.left = 0 then (9, d.burnt) else (0, { d.burnt with fresh := put d.fresh page b })

theorem over_len {f g : Pf} (hf : PfOk f) (hg : PfOk g) (x : Int) : ((over f g x).getD z512).length = 512 := by
  unfold over
  cases hx : f x with
  | some r => exact hf x r hx
  | none => exact getD_len hg x

set_option maxHeartbeats 2000000 in
set_option maxRecDepth 20000 in
theorem dload_any (h : Wh) (no nf : Nat) (d : Dk) (page : Int) (hpg : wf64 page) (w : World) (hd : DkW w h no nf d) :
    Calls Try.prog 29 #[.pointer (some ⟨h.B, 0, none⟩), .int .i64 page] w fun e w' => ∃ ao cap, e = .returned (.tuple #[.slice ao (d.load page).2.length cap, .int .i64 (d.load page).1]) ∧ Rd w' ao (d.load page).2.length cap (d.load page).2 ∧ Below w.heap.size w w' ∧ ∀ b off, ao = some ⟨b, off, none⟩ → w.heap.size ≤ b := by
  have CF := fault_any h no nf d w hd
  by_cases hoff : d.off = true
  · have e0 : d.load page = (9, []) := if_pos hoff
    rw [e0]
    rw [if_pos hoff] at CF
    clear hd hoff e0
    go_enter Try.func29, Try.ntmps29
    go_wp2_with (go_at_call 34; refine CF.mono ?_; rintro e w' ⟨rfl, hw⟩; obtain rfl : w = w' := hw.symm)
    go_ret2
    exact ⟨none, 0, rfl, Rd.nil _, Below.refl _ _, fun b off e => by cases e⟩
  · rw [if_neg hoff] at CF
    have CH := phas_any h.P h.mo h.mf no nf d.count d.old d.fresh page w hd.p
    have c2 := hd.c2
    by_cases hhas : d.hasP page = false
    · have e0 : d.load page = (1, []) := by unfold Dk.load; rw [if_neg hoff, if_pos hhas]
      rw [e0]
      rw [show (decide (0 ≤ page) && decide (page < d.count)) = false from hhas] at CH
      clear hd hoff e0 hhas
      go_enter Try.func29, Try.ntmps29
      go_wp2_with (first | (go_at_call 34; refine CF.mono ?_; rintro e w' ⟨rfl, hw⟩; obtain rfl : w = w' := hw.symm) | (go_at_call 50; refine CH.mono ?_; rintro e w' ⟨rfl, hw⟩; obtain rfl : w = w' := hw.symm))
      go_ret2
      exact ⟨none, 0, rfl, Rd.nil _, Below.refl _ _, fun b off e => by cases e⟩
    · have hh : d.hasP page = true := by simpa using hhas
      rw [show (decide (0 ≤ page) && decide (page < d.count)) = true from hh] at CH
      have e0 : d.load page = (0, (over d.fresh d.old page).getD z512) := by unfold Dk.load; rw [if_neg hoff, if_neg hhas]
      rw [e0]
      have CL := pload_any h.P h.mo h.mf no nf d.count d.old d.fresh page hpg w hd.p
      obtain ⟨r, hr⟩ : ∃ r, r = (over d.fresh d.old page).getD z512 := ⟨_, rfl⟩
      have hrl : r.length = 512 := by rw [hr]; exact over_len hd.p.f.1 hd.p.o.1 page
      rw [← hr] at CL ⊢
      dsimp only
      rw [hrl]
      have HRL : Hid (r.length = 512) := hrl
      clear hd hoff e0 hhas hh hr hrl
      go_enter Try.func29, Try.ntmps29
      go_wp2_with (first | (go_at_call 34; refine CF.mono ?_; rintro e w' ⟨rfl, hw⟩; obtain rfl : w = w' := hw.symm) | (go_at_call 50; refine CH.mono ?_; rintro e w' ⟨rfl, hw⟩; obtain rfl : w = w' := hw.symm))
      refine CL.mono ?_
      rintro e w3 ⟨rfl, b3⟩
      have b4 : Below w3.heap.size w3 (w3.alloc (.cells Try.zeroCells80 80)) := (Below.refl _ _).alloc (Nat.le_refl _) _
      have hN := heap_alloc_new w3 (.cells Try.zeroCells80 80)
      obtain ⟨hst, hb5, hC5⟩ := store_block (w3.alloc (.cells Try.zeroCells80 80)) w3.heap.size _ hN zc_size r HRL.out
      have hbl : (bv r).length = 512 := by rw [bv_length, HRL.out]
      obtain ⟨W5, hW5⟩ : ∃ W5, W5 = (w3.alloc (.cells Try.zeroCells80 80)).setRow w3.heap.size (bv r).toArray := ⟨_, rfl⟩
      rw [← hW5] at hst hb5 hC5
      have FIN : Hid (Rd W5 (some ⟨w3.heap.size, 0, none⟩) 512 512 r ∧ Below w.heap.size w W5 ∧ w.heap.size ≤ w3.heap.size) := by
        refine ⟨⟨HRL.out, Nat.le_refl _, by decide, (fun e => by cases e), fun _ => ⟨_, 0, rfl, fun i hi => ?_⟩⟩, ?_, b3.size⟩
        · exact bl_cell hb5 (0 + i) _ (by rw [Nat.zero_add]; simpa using bv_at r i hi)
        · have b5 : Below w3.heap.size w3 W5 := b4.trans (hC5.below b4.size (fun k e => by omega))
          exact b3.trans (b5.mono b3.size)
      clear CF CH CL c2 hb5 hC5 hN b4 b3 hW5
      go_wp2
      go_ret2
      exact ⟨_, _, rfl, FIN.out.1, FIN.out.2.1, fun b off e => by cases e; exact FIN.out.2.2⟩
end Go.Proofs.Ytecgjfghofpjcaa
