/-
  The contract of the document's Sync.
-/
import Derived.Test.YtecgjfghofpjcaaDpT
namespace Go.Proofs.Ytecgjfghofpjcaa
open Go.RowKit Go.Maps

theorem wpList_delete_run {P : Program} {w : World} {ops : Array Oper} {rest : List Oper} {o : Oper} {a : Act} {Q : Exit → Act → World → Prop} (hgd : o.guard = none) (m x : Operand) (t k : TypeId)
    (ho : o.op = .call { callee := .builtin .delete, args := #[m, x], argTypes := #[t, k] }) (mv xv : Value) (hv : a.eval m = mv) (hx : a.eval x = xv) {v' : Value} {w' : World} (hr : ∀ ty, (Builtin.delete_ #[t, k] ty #[mv, xv]).run P w = .ok v' w')
    (h : wpList P ops Q rest (a.put o.dst v') w') : wpList P ops Q (o :: rest) a w := by
  refine wpList_plain hgd fun K hK' => ?_
  unfold Oper.wp execOp
  simp only [ho, resolve, invoke, builtin, Sem.run_bind, Sem.run_pure, Result.andThen_ok, List.map_toArray, List.map_cons, List.map_nil, hv, hx, hr]
  exact hK' _ _ h

theorem delete_ty {P : Program} (t k ty ty' : TypeId) (m x : Value) {w : World} : (Builtin.delete_ #[t, k] ty #[m, x]).run P w = (Builtin.delete_ #[t, k] ty' #[m, x]).run P w := rfl

theorem wpList_len_run {P : Program} {w : World} {ops : Array Oper} {rest : List Oper} {o : Oper} {a : Act} {Q : Exit → Act → World → Prop} (hgd : o.guard = none) (m : Operand) (t : TypeId)
    (ho : o.op = .call { callee := .builtin .len, args := #[m], argTypes := #[t] }) (mv : Value) (hv : a.eval m = mv) {v' : Value} {w' : World} (hr : ∀ ty, (Builtin.len_ #[t] ty #[mv]).run P w = .ok v' w')
    (h : wpList P ops Q rest (a.put o.dst v') w') : wpList P ops Q (o :: rest) a w := by
  refine wpList_plain hgd fun K hK' => ?_
  unfold Oper.wp execOp
  simp only [ho, resolve, invoke, builtin, Sem.run_bind, Sem.run_pure, Result.andThen_ok, List.map_toArray, List.map_cons, List.map_nil, hv, hr]
  exact hK' _ _ h

/-- The pages below i are sure. -/
def ovN (f o : Pf) (i : Int) : Pf := fun x => if x < i then over f o x else o x
def cutN (f : Pf) (i : Int) : Pf := fun x => if x < i then none else f x

theorem ovN_zero (f o : Pf) (hk : ∀ x, (f x).isSome = true → 0 ≤ x) : ovN f o 0 = o := by
  funext x
  unfold ovN over
  split
  · rename_i h
    cases hf : f x with
    | none => rfl
    | some r => have := hk x (by rw [hf]; rfl); omega
  · rfl
theorem cutN_zero (f : Pf) (hk : ∀ x, (f x).isSome = true → 0 ≤ x) : cutN f 0 = f := by
  funext x
  unfold cutN
  split
  · rename_i h
    cases hf : f x with
    | none => rfl
    | some r => have := hk x (by rw [hf]; rfl); omega
  · rfl
theorem ovN_none (f o : Pf) (i : Int) (hf : f i = none) : ovN f o (i + 1) = ovN f o i := by
  funext x
  unfold ovN
  by_cases e : x = i
  · subst e
    rw [if_pos (by omega), if_neg (by omega)]
    unfold over
    rw [hf]
  · by_cases h : x < i
    · rw [if_pos (by omega), if_pos h]
    · rw [if_neg (by omega), if_neg h]
theorem cutN_none (f : Pf) (i : Int) (hf : f i = none) : cutN f (i + 1) = cutN f i := by
  funext x
  unfold cutN
  by_cases e : x = i
  · subst e
    rw [if_pos (by omega), if_neg (by omega), hf]
  · by_cases h : x < i
    · rw [if_pos (by omega), if_pos h]
    · rw [if_neg (by omega), if_neg h]
theorem ovN_some (f o : Pf) (i : Int) (r : List UInt8) (hf : f i = some r) : put (ovN f o i) i r = ovN f o (i + 1) := by
  funext x
  unfold put ovN
  by_cases e : x = i
  · subst e
    rw [if_pos rfl, if_pos (by omega)]
    unfold over
    rw [hf]
  · rw [if_neg e]
    by_cases h : x < i
    · rw [if_pos h, if_pos (by omega)]
    · rw [if_neg h, if_neg (by omega)]
theorem cutN_del (f : Pf) (i : Int) : del (cutN f i) i = cutN f (i + 1) := by
  funext x
  unfold del cutN
  by_cases e : x = i
  · subst e
    rw [if_pos rfl, if_pos (by omega)]
  · rw [if_neg e]
    by_cases h : x < i
    · rw [if_pos h, if_pos (by omega)]
    · rw [if_neg h, if_neg (by omega)]
theorem over_ok {f o : Pf} (hf : PfOk f) (ho : PfOk o) : PfOk (over f o) := by
  intro x bs e
  unfold over at e
  cases h : f x with
  | some r => rw [h] at e; cases e; exact hf x _ h
  | none => rw [h] at e; exact ho x bs e

/-- Only the maps have changed. -/
theorem RkW.turnM {w w' : World} {r : Rf} {no nf no' nf' : Nat} {d : Dk} {old fresh : Pf} (h : RkW w r no nf d) (hC : Chg (fun k => k = r.mo ∨ k = r.mf) w w') (ho : MS w' r.mo no' old) (hf : MS w' r.mf nf' fresh) : RkW w' r no' nf' { d with old := old, fresh := fresh } := by
  refine ⟨(hC.block _ (bl_lt h.b) (fun e => e.elim (fun e => h.o.ne h.b e.symm) (fun e => h.f.ne h.b e.symm))).trans h.b, ?_, fun b off e => ⟨(h.a b off e).1, (h.a b off e).2.1, (h.a b off e).2.2.1, Nat.lt_of_lt_of_le (h.a b off e).2.2.2 hC.size⟩, ho, hf, h.ne⟩
  exact h.l.chg hC (fun _ b off e q => q.elim (h.a b off e).2.1 (h.a b off e).2.2.1)

set_option maxRecDepth 20000 in
set_option maxHeartbeats 2000000 in
theorem rsync_any (r : Rf) (no nf : Nat) (d : Dk) (w : World) (h : RkW w r no nf d) (hk : Dok d) (hno : no + 65536 < 9223372036854775807) :
    Calls Try.prog 18 #[.pointer (some ⟨r.R, 0, none⟩)] w fun e w' => e = .returned (.int .i64 d.sync.1) ∧ RkW w' r (no + 65536) nf d.sync.2 ∧ Chg r.has w w' := by
  have c3 := h.c3
  have HF : Hid (∀ {W d'}, RkW W r no nf d' → RkW W r (no + 65536) nf d') := fun h => ⟨h.b, h.l, h.a, h.o.mono (Nat.le_add_right _ _), h.f, h.ne⟩
  by_cases hoff : d.off = true
  · have e0 : d.sync = (9, d) := if_pos hoff
    rw [e0]
    rw [hoff] at c3
    have H : Hid (RkW w r no nf d) := h
    clear h hoff e0 hk
    go_enter Try.func18, Try.ntmps18
    go_wp2
    go_ret
    exact ⟨rfl, HF.out H.out, Chg.refl _ _⟩
  · have hoff' : d.off = false := by simpa using hoff
    rw [hoff'] at c3
    have CO := rop_any r no nf d w h hk.lf
    by_cases hl : d.left = 0
    · have e0 : d.sync = (9, d.burnt) := by unfold Dk.sync; rw [if_neg hoff, if_pos hl]
      rw [e0]
      have ed : decide (d.left ≠ 0) = false := by simp [hl]
      rw [ed] at CO
      clear h hoff hoff' e0 hk hl ed
      go_enter Try.func18, Try.ntmps18
      go_wp2_with (go_at_call 45; refine CO.mono ?_; rintro e w3 ⟨rfl, h3, hC3⟩)
      go_ret
      exact ⟨rfl, HF.out h3, hC3.mono (fun k _ e => .inl e)⟩
    · have e0 : d.sync = (0, { d.burnt with lo := { d.lo with sure := d.lo.bytes.length }, old := over d.fresh d.old, fresh := none' }) := by unfold Dk.sync; rw [if_neg hoff, if_neg hl]
      rw [e0]
      have ed : decide (d.left ≠ 0) = true := by simp [hl]
      rw [ed] at CO
      obtain ⟨m, hm⟩ : ∃ m, m = d.lo.bytes.length := ⟨_, rfl⟩
      rw [← hm]
      obtain ⟨C, hC⟩ : ∃ C : Nat, d.count = (C : Int) := ⟨d.count.toNat, by have := hk.c0; omega⟩
      have HM : Hid (d.burnt.lo.bytes.length = m ∧ d.burnt.count = (C : Int) ∧ C ≤ 65536 ∧ (∀ x, (d.fresh x).isSome = true → 0 ≤ x ∧ x < (C : Int)) ∧ no + 65536 < 9223372036854775807) := ⟨hm.symm, hC, by have := hk.c1; omega, fun x hx => by rw [← hC]; exact hk.fk x hx, hno⟩
      have HPF : Hid (PfOk d.fresh ∧ PfOk d.old) := ⟨h.f.1, h.o.1⟩
      clear h hoff hoff' e0 hk hl ed hm hC hno
      go_enter Try.func18, Try.ntmps18
      go_upto_region 3 with (go_at_call 45; refine CO.mono ?_; rintro e w3 ⟨rfl, h3, hC3⟩)
      have d5 := h3.c5
      rw [HM.out.1] at d5
      have d6 := h3.c6
      have f6 := bl_open h3.b 6
      have hC4 := chg_set w3 r.R 6 (.int .i64 (m : Int))
      have hb4 := bl_set h3.b 6 (.int .i64 (m : Int))
      have h4 := h3.turn (d' := { d.burnt with lo := { d.lo with sure := m } }) hC4 hb4 rfl rfl rfl
      obtain ⟨W4, hW4⟩ : ∃ W4, W4 = w3.setCell ⟨r.R, 6, none⟩ (.int .i64 (m : Int)) := ⟨_, rfl⟩
      rw [← hW4] at h4 hC4
      have HW4 : Hid (w3.setCell ⟨r.R, 6, none⟩ (.int .i64 (m : Int)) = W4) := hW4.symm
      have H4 : Hid (RkW W4 r no nf { d.burnt with lo := { d.lo with sure := m } } ∧ Chg r.has w W4) := ⟨h4, hC3.trans hC4 (fun k _ e => .inl e) (fun k _ e => .inl e)⟩
      clear h3 hC3 hC4 hb4 h4 hW4 CO c3
      go_upto_region 4 with fail
      rw [HW4.out]
      clear d5 d6 f6 HW4
      go_wp2
      go_loopw [3] (fun s3 wr => ∃ k : Nat, s3 = .int .i64 (k : Int) ∧ Hid (k ≤ C ∧ RkW wr r (no + k) nf { d.burnt with lo := { d.lo with sure := m }, old := ovN d.fresh d.old k, fresh := cutN d.fresh k } ∧ Chg r.has w wr)) (fun i _ => C - (intOf i).toNat)
      case atStart =>
        refine ⟨0, rfl, Nat.zero_le _, ?_, H4.out.2⟩
        have e1 := ovN_zero d.fresh d.old (fun x hx => (HM.out.2.2.2.1 x hx).1)
        have e2 := cutN_zero d.fresh (fun x hx => (HM.out.2.2.2.1 x hx).1)
        show RkW W4 r (no + 0) nf { d.burnt with lo := { d.lo with sure := m }, old := ovN d.fresh d.old ((0 : Nat) : Int), fresh := cutN d.fresh ((0 : Nat) : Int) }
        rw [show (((0 : Nat) : Int)) = 0 from rfl, e1, e2]
        exact H4.out.1
      case round =>
        obtain ⟨k, rfl, hH⟩ := hrel
        have q := hH.out.2.1
        have HEX : Hid ((∀ x, wf64 x → cutN d.fresh (k : Int) x = none) → RkW wr r (no + 65536) nf { d.burnt with lo := { d.lo with sure := m }, old := over d.fresh d.old, fresh := none' } ∧ Chg r.has w wr) := by
          intro hall
          refine ⟨⟨q.b, q.l, q.a, ?_, q.f.ext (fun x bs e => by cases e) hall, q.ne⟩, hH.out.2.2⟩
          refine (q.o.mono (by have := hH.out.1; have := HM.out.2.2.1; omega)).ext (over_ok HPF.out.1 HPF.out.2) (fun x hx => ?_)
          show ovN d.fresh d.old k x = over d.fresh d.old x
          unfold ovN
          split
          · rfl
          · rename_i hge
            have e := hall x hx
            unfold cutN at e
            rw [if_neg hge] at e
            unfold over
            rw [e]
        have c1 := q.c1
        rw [show d.burnt.count = (C : Int) from HM.out.2.1] at c1
        have c7 := q.c7
        have c8 := q.c8
        obtain ⟨s, hlen, hs0⟩ := q.f.len
        by_cases hlt : k < C
        · have hlt' : (k : Int) < (C : Int) := by omega
          by_cases hs : s = 0
          · subst hs
            have HR := HEX.out (hs0 rfl)
            clear q hs0 hlt
            go_wp2_with (at_len; refine wpList_len_run rfl _ _ rfl _ rfl hlen ?_)
            go_ret
            exact ⟨rfl, HR⟩
          · have hsp : ((s : Nat) : Int) > 0 := by omega
            have hwk : wf64 (k : Int) := ⟨by omega, by have := HM.out.2.2.1; omega⟩
            have L := MS.look (f := cutN d.fresh (k : Int)) q.f (k : Int) hwk
            have ek : cutN d.fresh (k : Int) (k : Int) = d.fresh (k : Int) := by unfold cutN; rw [if_neg (by omega)]
            rw [ek] at L
            have hwr : IntKind.i64.wrap ((k : Int) + 1) = ((k + 1 : Nat) : Int) := by have := HM.out.2.2.1; rw [IntKind.wrap_i64]; omega
            have HME : Hid (C - ((k : Int) + 1).toNat < C - ((k : Int)).toNat) := by exact (show C - ((k : Int) + 1).toNat < C - ((k : Int)).toNat by omega)
            cases hf : d.fresh (k : Int) with
            | none =>
              rw [hf] at L
              simp only [Option.getD_none, Option.isSome_none] at L
              have FIN : Hid (k + 1 ≤ C ∧ RkW wr r (no + (k + 1)) nf { d.burnt with lo := { d.lo with sure := m }, old := ovN d.fresh d.old ((k + 1 : Nat) : Int), fresh := cutN d.fresh ((k + 1 : Nat) : Int) } ∧ Chg r.has w wr) := by
                rw [show ((k + 1 : Nat) : Int) = (k : Int) + 1 by omega, ovN_none _ _ _ hf, cutN_none _ _ hf]
                exact ⟨hlt, ⟨q.b, q.l, q.a, q.o.mono (by omega), q.f, q.ne⟩, hH.out.2.2⟩
              clear q hs0 hlt ek hf HEX
              go_wp2_with (at_len; refine wpList_len_run rfl _ _ rfl _ rfl hlen ?_)
              go_roundw
              case rel => exact ⟨k + 1, rfl, FIN.out⟩
              case measure => exact HME.out
            | some x =>
              rw [hf] at L
              simp only [Option.getD_some, Option.isSome_some] at L
              have hxl := HPF.out.1 _ _ hf
              obtain ⟨W5, hst, hM5, hC5⟩ := MS.store (f := ovN d.fresh d.old (k : Int)) q.o (by have := HM.out; omega) (k : Int) hwk x hxl
              have hf5 : MS W5 r.mf nf (cutN d.fresh k) := q.f.later (hC5.block _ q.f.lt (fun e => q.ne e.symm))
              obtain ⟨W6, hdl, hM6, hC6⟩ : ∃ W6, (∀ ty, (Builtin.delete_ #[45, 3] ty #[.map (some r.mf), .int .i64 (k : Int)]).run Try.prog W5 = .ok (.tuple #[]) W6) ∧ MS W6 r.mf nf (del (cutN d.fresh k) k) ∧ Chg (fun j => j = r.mf) W5 W6 := by
                obtain ⟨W6, h1, h2, h3⟩ := hf5.drop (k : Int) hwk 3
                exact ⟨W6, fun ty => (delete_ty _ _ _ _ _ _).trans h1, h2, h3⟩
              have c8' : W5.cell? ⟨r.R, 8, none⟩ = some (.map (some r.mf)) := hC5.cell (fun e => q.o.ne q.b e.symm) c8
              have FIN : Hid (k + 1 ≤ C ∧ RkW W6 r (no + (k + 1)) nf { d.burnt with lo := { d.lo with sure := m }, old := ovN d.fresh d.old ((k + 1 : Nat) : Int), fresh := cutN d.fresh ((k + 1 : Nat) : Int) } ∧ Chg r.has w W6) := by
                rw [show ((k + 1 : Nat) : Int) = (k : Int) + 1 by omega, ← ovN_some _ _ _ x hf, ← cutN_del]
                have hC56 : Chg (fun j => j = r.mo ∨ j = r.mf) wr W6 := hC5.trans hC6 (fun _ _ e => .inl e) (fun _ _ e => .inr e)
                exact ⟨hlt, q.turnM hC56 (hM5.later (hC6.block _ hM5.lt q.ne)) hM6, hH.out.2.2.trans hC56 (fun _ _ e => e) (fun j _ e => e.elim (fun e => .inr (.inl e)) (fun e => .inr (.inr (.inl e))))⟩
              clear q hs0 hlt ek hf HEX hM5 hC5 hf5 hM6 hC6 hxl
              go_wp2_with (first | (at_len; refine wpList_len_run rfl _ _ rfl _ rfl hlen ?_) | (at_delete; refine wpList_delete_run rfl _ _ _ _ rfl _ _ rfl rfl hdl ?_))
              go_roundw
              case rel => exact ⟨k + 1, rfl, FIN.out⟩
              case measure => exact HME.out
        · have hlt' : ¬ (k : Int) < (C : Int) := by omega
          have HR := HEX.out (fun x hx => by
            unfold cutN
            split
            · rfl
            · cases hf : d.fresh x with
              | none => rfl
              | some y =>
                have := (HM.out.2.2.2.1 x (by rw [hf]; rfl)).2
                omega)
          clear q hs0 hlt
          go_wp2
          go_ret
          exact ⟨rfl, HR⟩
end Go.Proofs.Ytecgjfghofpjcaa
