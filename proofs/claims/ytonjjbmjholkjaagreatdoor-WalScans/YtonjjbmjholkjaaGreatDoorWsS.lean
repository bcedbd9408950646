/-
  The contract of longstopref15.Scan, the document's answer.
-/
import Derived.Test.YtonjjbmjholkjaaGreatDoorWsR5
namespace Go.Proofs.YtonjjbmjholkjaaGreatDoor
open Go.RowKit Go.Shelf

theorem Tryz.info65 : (Tryz.prog.info? 65).map (fun i => (i.zero, i.size, i.bytes)) = some (some (.agg #[.int .i64 0, .slice none 0 0]), 2, 32) := by kernel_rfl

set_option maxRecDepth 20000 in
set_option maxHeartbeats 2000000 in
theorem rscan_any (base : Int) (ao : Option Addr) (m cap : Nat) (bs : List UInt8) (w : World) (hR : Rd w ao m cap bs) (b1 : -4611686018427387904 ≤ base) (b2 : base ≤ 4611686018427387904) (hm : m ≤ 16777216) :
    Calls Tryz.prog 8 #[.int .i64 base, .slice ao m cap] w fun e w' => ∃ (xs : List Itv) (v : Value), e = .returned (.tuple #[v, .int .i64 (base + endL 0 (rcs 0 bs))]) ∧ xs.map Itv.it = rcs 0 bs ∧
      w'.ownsRow w.heap.size 65 2 v xs.length (ecs base xs) ∧ Inn w' w.heap.size xs ∧ Below w.heap.size w w' := by
  obtain ⟨i0, hi, hz0, hz1, hz2⟩ := info_parts Tryz.info65
  have HR : Hid (Rd w ao m cap bs) := hR
  have hml := hR.1
  clear hR
  go_enter Tryz.func8, Tryz.ntmps8
  go_wp2_with fail
  go_loopw [6, 7] (fun es av wr => ∃ (pre : List Itv) (off : Nat), av = .int .i64 (off : Int) ∧ wr.ownsRow w.heap.size 65 2 es pre.length (ecs base pre) ∧ Inn wr w.heap.size pre ∧ pre.map Itv.it ++ rcs off (bs.drop off) = rcs 0 bs ∧
      endL 0 (pre.map Itv.it) = off ∧ off ≤ m ∧ Below w.heap.size w wr) (fun _ av _ => m - (intOf av).toNat)
  case atStart => exact ⟨[], 0, rfl, World.ownsRow_nil _ _ _ _, fun x hx => by simp at hx, by simp, rfl, Nat.zero_le _, Below.refl _ _⟩
  case round =>
    obtain ⟨pre, off, rfl, hrow, hin, hrec, hend, hoff, hB⟩ := hrel
    obtain ⟨ea, ec, rfl⟩ := row_len hrow
    have hwo : IntKind.i64.wrap (base + (off : Int)) = base + (off : Int) := by rw [IntKind.wrap_i64]; omega
    by_cases hlt : off < m
    · have hltI : (off : Int) < (m : Int) := by omega
      obtain ⟨ao2, hrun, hrd2, -⟩ := slice_tail HR.out off hoff
      have CU := runrecord_any ao2 (m - off) (cap - off) (bs.drop off) wr (hrd2 wr (HR.out.later hB))
      by_cases he : (takeR (bs.drop off)).2.2 = 0
      · have hsz := takeR_size (bs.drop off) he
        have hys := rcs_yes off (bs.drop off) he
        rw [he] at CU
        rw [List.drop_drop] at hys
        have hdl : (bs.drop off).length = m - off := by simp; omega
        generalize (takeR (bs.drop off)).1 = inn at *
        generalize (takeR (bs.drop off)).2.1 = sz at *
        have HF : Hid (pre.map Itv.it ++ ({ off := off, inn := inn, fin := off + sz } :: rcs (off + sz) (bs.drop (off + sz))) = rcs 0 bs) := by rw [← hys]; exact hrec
        have hs1 : 0 < sz := by omega
        have hs2 : off + sz ≤ m := by omega
        have HL : Hid (pre.length + 1 ≤ 16777217) := by
          show pre.length + 1 ≤ 16777217
          have h1 := congrArg List.length HF.out
          have h2 := rcs_len 0 bs
          simp at h1
          omega
        clear hrd2 hrec hys hdl he hsz
        go_wp2_with fail
        refine CU.mono ?_
        rintro e w1 ⟨v, rfl, hO, bU⟩
        obtain ⟨ao3, cap3, rfl, hrd3, -⟩ := hO.rd
        have hrow1 := row_kept hrow (fun b e => bU.block b (row_own hrow e).2.1)
        have hin1 := hin.later bU
        have hB1 := hB.trans (bU.mono hB.size)
        have z1 := hB1.size
        have HW : Hid (Inn w1 w.heap.size pre ∧ Go.Proofs.YtonjjbmjholkjaaGreatDoor.Own w1 w.heap.size (.slice ao3 inn.length cap3) inn ∧ Below w.heap.size w w1) := ⟨hin1, hO.more hB.size, hB1⟩
        have hws : IntKind.i64.wrap ((off : Int) + (sz : Int)) = ((off + sz : Nat) : Int) := by rw [IntKind.wrap_i64]; omega
        have hl1 := HL.out
        have HME : Hid (∀ z : Int, z = ((off + sz : Nat) : Int) → m - z.toNat < m - (off : Int).toNat) := fun z hz => by omega
        clear CU hrow hin hB bU hrun hO hrd3 hin1 hB1
        go_wp2_with (at_builtin; refine wpList_append_own _ rfl (.tmp 25) (.tmp 31) 28 rfl w.heap.size 65 i0 (.agg #[.int .i64 0, .slice none 0 0]) 2 32 Tryz.underlying28 hi hz0 hz1 hz2 rfl (by decide) _ _ _ rfl (World.ownsRow.alloc hrow1 _) ⟨w1.heap.size, 0, none⟩ 1 1 [.int .i64 (base + off), .slice ao3 inn.length cap3] rfl rfl (two_new _ _ _ _) (by simp [Value.oneCell']) (by unfold maxLen; omega) (by omega) (by simp; omega) ?_; intro v2 w2 hown2 hgrow2 _)
        have bW : Below w1.heap.size w1 (w1.alloc (.cells #[.int .i64 (base + off), .slice ao3 inn.length cap3] 65)) := (Below.refl _ _).alloc (Nat.le_refl _) _
        have hinx : Inn w1 w.heap.size (pre ++ [⟨⟨off, inn, off + sz⟩, ao3, cap3⟩]) := by
          intro y hy
          rcases List.mem_append.1 hy with h | h
          · exact HW.out.1 y h
          · rw [List.mem_singleton] at h; subst h; exact HW.out.2.1
        have hin2 := (hinx.later bW).grown hgrow2 (fun r e => by obtain ⟨cs, h⟩ := row_type (World.ownsRow.alloc hrow1 _) r e; exact ⟨cs, _, h, by decide⟩)
        have b2 : Below w.heap.size w w2 := (HW.out.2.2.trans (bW.mono z1)).grown hgrow2 (by simp; omega) (fun k hk => (World.ownsRow.lt hrow1 k hk).1)
        have HE : Hid (w2.ownsRow w.heap.size 65 2 v2 (pre ++ [(⟨⟨off, inn, off + sz⟩, ao3, cap3⟩ : Itv)]).length (ecs base (pre ++ [⟨⟨off, inn, off + sz⟩, ao3, cap3⟩])) ∧ Inn w2 w.heap.size (pre ++ [⟨⟨off, inn, off + sz⟩, ao3, cap3⟩]) ∧ Below w.heap.size w w2) := ⟨by rw [ecs_snoc, List.length_append]; exact hown2, hin2, b2⟩
        clear hown2 hgrow2 bW hinx hin2 b2 hrow1
        go_wp2
        go_roundw
        case rel => exact ⟨pre ++ [⟨⟨off, inn, off + sz⟩, ao3, cap3⟩], off + sz, by first | rfl | rw [hws], HE.out.1, HE.out.2.1, by rw [List.map_append, List.map_cons, List.map_nil, List.append_assoc]; exact HF.out, by rw [List.map_append, List.map_cons, List.map_nil, endL_snoc], by omega, HE.out.2.2⟩
        case measure => exact HME.out _ (by first | rfl | omega)
      · have hno := rcs_no off (bs.drop off) he
        have HF : Hid (pre.map Itv.it = rcs 0 bs) := by rw [hno, List.append_nil] at hrec; exact hrec
        have he' : (((takeR (bs.drop off)).2.2 : Int) != 0) = true := by simp; omega
        have HI : Hid (wr.ownsRow w.heap.size 65 2 (.slice ea pre.length ec) pre.length (ecs base pre) ∧ Inn wr w.heap.size pre ∧ Below w.heap.size w wr) := ⟨hrow, hin, hB⟩
        clear hrec hno he hrd2 hrow hin hB
        generalize (takeR (bs.drop off)).1 = inn at *
        generalize (takeR (bs.drop off)).2.2 = er at *
        generalize (takeR (bs.drop off)).2.1 = sz at *
        go_wp2_with fail
        refine CU.mono ?_
        rintro e w1 ⟨v, rfl, hO, bU⟩
        obtain ⟨ao3, cap3, rfl, hrd3, -⟩ := hO.rd
        clear CU hrun hO hrd3
        go_wp2
        go_ret2
        obtain ⟨h1, h2, h3⟩ := HI.out
        refine ⟨pre, _, ?_, HF.out, row_kept h1 (fun b e => bU.block b (row_own h1 e).2.1), h2.later bU, h3.trans (bU.mono h3.size)⟩
        rw [← HF.out, hend]; rfl
    · have hltI : ¬ (off : Int) < (m : Int) := by omega
      have ho : bs.drop off = [] := by rw [List.drop_eq_nil_iff]; omega
      have HF : Hid (pre.map Itv.it = rcs 0 bs) := by rw [ho, rcs_nil, List.append_nil] at hrec; exact hrec
      have HI : Hid (wr.ownsRow w.heap.size 65 2 (.slice ea pre.length ec) pre.length (ecs base pre) ∧ Inn wr w.heap.size pre ∧ Below w.heap.size w wr) := ⟨hrow, hin, hB⟩
      clear hrec ho hrow hin hB
      go_wp2
      go_ret2
      obtain ⟨h1, h2, h3⟩ := HI.out
      refine ⟨pre, _, ?_, HF.out, h1, h2, h3⟩
      rw [← HF.out, hend]; rfl
end Go.Proofs.YtonjjbmjholkjaaGreatDoor
