/-
  Insert at entries and at nodes' pointers as plain data; slices.Clone.
-/
import Derived.Test.YtmdembfnpmlmaaaTrI
import Derived.Lib.LazyBuf
namespace Go.Proofs.Ytmdembfnpmlmaaa
open Go.RowKit Go.Lib

section
variable {P : Program} {w : World}
theorem run_append_src (base : Nat) (t tx ty e : TypeId) (i : TypeInfo) (z : Value) (size bytes : Nat) (ht : P.underlying t = some (.slice e)) (hi : P.info? e = some i) (hz : i.zero = some z)
    (hsize : i.size = size) (hby : i.bytes = bytes) (hzs : z.cells.size = size)
    (v : Value) (n : Nat) (xs : List Value) (hown : w.ownsRow base e size v n xs) (x : Value) (m : Nat) (news : List Value) (hs : Src P size tx x m news w)
    (h63 : n + m ≤ maxLen) (hbytes : (n + m) * bytes ≤ 140737488355328) (hbase : base ≤ w.heap.size) :
    ∃ v' w', (Builtin.append_ #[t, tx] ty #[v, x]).run P w = .ok v' w' ∧ w'.ownsRow base e size v' (n + m) (xs ++ news) ∧ w.grownBy w' v.ownBlock := by
  subst hsize
  subst hby
  have hl := hs.newsLen
  have hsmall : n + m ≤ 9223372036854775807 := by simp only [maxLen] at h63; omega
  have hlen : (xs ++ news).length = (n + m) * i.size := by rw [List.length_append, hown.1, hl, Nat.add_mul]
  have grown : ∀ (old : Nat), old < n + m → ∀ (row : Option Nat),
      (w.drew.alloc (.cells ((xs ++ news).toArray ++ Builtin.zeroCells z.cells (grownCap w (n + m) old e - (n + m))) e)).ownsRow base e i.size
        (.slice (some ⟨w.heap.size, 0, none⟩) (n + m) (grownCap w (n + m) old e)) (n + m) (xs ++ news) ∧
      w.grownBy (w.drew.alloc (.cells ((xs ++ news).toArray ++ Builtin.zeroCells z.cells (grownCap w (n + m) old e - (n + m))) e)) row := by
    intro old ho row
    have hge := grownCap_ge w (n + m) old e
    have hcm : grownCap w (n + m) old e ≤ maxLen := grownCap_le_maxLen w (n + m) old e h63
    refine ⟨⟨hlen, .inr ⟨w.heap.size, _, _, rfl, hbase, heap_alloc_new w.drew _, hge, hcm, ?_, ?_⟩⟩, ⟨rfl, rfl, rfl, by simp, fun k hk _ => Below.heap_alloc w.drew _ k hk⟩⟩
    · simp only [Array.size_append, List.size_toArray, size_zeroCells, hzs, hlen, ← Nat.add_mul]
      congr 1
      omega
    · simp only [Array.toList_append]
      rw [← hlen]
      exact List.take_left
  rcases hown.2 with ⟨rfl, rfl⟩ | ⟨g, cap, cur, rfl, hbg, hg, hnc, hcm, hcs, htake⟩
  · have hx : xs = [] := List.eq_nil_of_length_eq_zero (by simpa using hown.1)
    subst hx
    by_cases hm : m = 0
    · subst hm
      have hn : news = [] := List.eq_nil_of_length_eq_zero (by simpa using hl)
      subst hn
      have hcl := hs.cells
      refine ⟨.slice none 0 0, w, ?_, World.ownsRow_nil w base e i.size, ⟨rfl, rfl, rfl, Nat.le_refl _, fun _ _ _ => rfl⟩⟩
      rcases hs.kind with ⟨e', hk⟩ | hk <;> simp [Builtin.append_, run_underlying ht, run_underlying hk, sizeOf, typeInfo, hi, hs.len, hcl]
    · have hr := run_append_grow_src (P := P) w t tx ty e i z ht hi hz none 0 0 [] (run_firstCells_none w.drew i.size 0 0 0) x m news hs (by omega) (by omega) (growslice_fits (by omega) hbytes)
      have hgr := grown 0 (by omega) (Value.ownBlock (.slice none 0 0))
      exact ⟨_, _, hr, hgr.1, hgr.2⟩
  · by_cases hroom : n + m ≤ cap
    · have hfit : n * i.size + news.length ≤ cur.size := by rw [hl, hcs, ← Nat.add_mul]; exact Nat.mul_le_mul_right _ hroom
      have hr := run_append_room_from (P := P) t tx ty e i ht hi g n cap cur hg x m news hs hroom hfit
      refine ⟨_, _, hr, ⟨hlen, .inr ⟨g, cap, _, rfl, hbg, setRow_heap w g cur _ e _ hg, hroom, hcm, ?_, ?_⟩⟩, ⟨rfl, rfl, rfl, by simp, fun k _ hk => setRow_other w g k _ (fun e => hk (by simp [Value.ownBlock, e]))⟩⟩
      · simp only [List.size_toArray, List.length_append, List.length_take, List.length_drop, Array.length_toList]
        omega
      · rw [htake, ← hlen]
        exact List.take_left
    · have holds : ∀ j u, xs[j]? = some u → w.drew.cell? ((⟨g, 0, none⟩ : Addr).add j) = some u := hown.cells (g := g) rfl
      have hr := run_append_grow_src (P := P) w t tx ty e i z ht hi hz (some ⟨g, 0, none⟩) n cap xs (run_firstCells_some w.drew i.size n ⟨g, 0, none⟩ n cap xs hown.1 holds) x m news hs (by omega) (by omega) (growslice_fits (by omega) hbytes)
      have hgr := grown cap (by omega) (Value.ownBlock (.slice (some ⟨g, 0, none⟩) n cap))
      exact ⟨_, _, hr, hgr.1, hgr.2⟩

theorem wpList_append_src {ops : Array Oper} {rest : List Oper} {o : Oper} {a : Act} {Q : Exit → Act → World → Prop} (hgd : o.guard = none) (s x : Operand) (t tx : TypeId)
    (ho : o.op = .call { callee := .builtin .append, args := #[s, x], argTypes := #[t, tx] })
    (base : Nat) (e : TypeId) (i : TypeInfo) (z : Value) (size bytes : Nat) (ht : P.underlying t = some (.slice e)) (hi : P.info? e = some i) (hz : i.zero = some z)
    (hsize : i.size = size) (hby : i.bytes = bytes) (hzs : z.cells.size = size)
    (v : Value) (n : Nat) (xs : List Value) (hv : a.eval s = v) (hown : w.ownsRow base e size v n xs)
    (xv : Value) (m : Nat) (news : List Value) (hx : a.eval x = xv) (hs : Src P size tx xv m news w)
    (h63 : n + m ≤ maxLen) (hbytes : (n + m) * bytes ≤ 140737488355328) (hbase : base ≤ w.heap.size)
    (h : ∀ v' w', w'.ownsRow base e size v' (n + m) (xs ++ news) → w.grownBy w' v.ownBlock → wpList P ops Q rest (a.put o.dst v') w') : wpList P ops Q (o :: rest) a w := by
  refine wpList_plain hgd fun K hK' => ?_
  obtain ⟨v', w', hr, h2, h3⟩ := run_append_src (P := P) base t tx o.type e i z size bytes ht hi hz hsize hby hzs v n xs hown xv m news hs h63 hbytes hbase
  unfold Oper.wp execOp
  simp only [ho, resolve, invoke, builtin, Sem.run_bind, Sem.run_pure, Result.andThen_ok, List.map_toArray, List.map_cons, List.map_nil, hv, hx, hr]
  exact hK' _ _ (h v' w' h2 h3)
end

theorem ecs_mid (es : List Ent) (x : Ent) (i : Nat) : (ecs es).take (i * 2) ++ ([.string x.1, .int .i64 x.2] ++ (ecs es).drop (i * 2)) = ecs (es.take i ++ x :: es.drop i) := by
  rw [ecs_take, ecs_drop, ecs_append]
  rfl
theorem mid_lenE (es : List Ent) (x : Ent) (i : Nat) (h : i ≤ es.length) : (es.take i ++ x :: es.drop i).length = es.length + 1 := by
  rw [List.length_append, List.length_take, List.length_cons, List.length_drop]; omega
theorem insE_any (v : Value) (es : List Ent) (x : Ent) (i N vb : Nat) (w : World) (h : OwE w N v es) (hx : w.heap[vb]? = some (.cells #[.string x.1, .int .i64 x.2] 65 (0, 0))) (hi : i ≤ es.length) (hn : es.length ≤ 1000) (hN : N ≤ w.heap.size) (hvb : v.ownBlock ≠ some vb) :
    Calls Try.prog 48 #[v, .int .i64 (i : Int), .slice (some ⟨vb, 0, none⟩) 1 1] w fun e w' => ∃ v', e = .returned v' ∧ OwE w' N v' (es.take i ++ x :: es.drop i) ∧ w.grownBy w' v.ownBlock ∧ ∀ g, v'.ownBlock = some g → v.ownBlock = some g ∨ w.heap.size ≤ g := by
  have h1x : ∀ u ∈ ([.string x.1, .int .i64 x.2] : List Value), u.oneCell' = true := by simp [Value.oneCell']
  unfold OwE at *
  rw [mid_lenE es x i hi]
  rw [← ecs_mid es x i]
  by_cases he : i = es.length
  · subst he
    refine (insertE_end v es.length N vb (ecs es) [.string x.1, .int .i64 x.2] w h hx rfl h1x hn hN).mono ?_
    rintro e w' ⟨v', rfl, ho, hg, hb⟩
    refine ⟨v', rfl, ?_, hg, fun g hg => ?_⟩
    · have e1 : (ecs es).take (es.length * 2) = ecs es := List.take_of_length_le (by rw [ecs_len]; exact Nat.le_refl _)
      have e2 : (ecs es).drop (es.length * 2) = [] := List.drop_of_length_le (by rw [ecs_len]; exact Nat.le_refl _)
      rw [e1, e2, List.append_nil]
      exact ho
    · rcases hb with e | e
      · exact .inl (e ▸ hg)
      · rw [e] at hg; cases hg; exact .inr (Nat.le_refl _)
  · rcases own_val h with ⟨rfl, h0⟩ | ⟨g, cap, rfl, hnc, hcm, hNg, hgl⟩
    · omega
    · have hne : vb ≠ g := fun e => hvb (by rw [e]; rfl)
      by_cases hr : es.length + 1 ≤ cap
      · refine (insertE_room g es.length cap i N vb (ecs es) [.string x.1, .int .i64 x.2] w h (ecs_one es) hx rfl h1x (by omega) hr hne).mono ?_
        rintro e w' ⟨rfl, ho, hg⟩
        exact ⟨_, rfl, ho, hg, fun g' hg' => .inl hg'⟩
      · refine (insertE_grow g es.length cap i N vb (ecs es) [.string x.1, .int .i64 x.2] w h (ecs_one es) hx rfl h1x (by omega) hr hn hN).mono ?_
        rintro e w' ⟨gc, rfl, ho, hg⟩
        exact ⟨_, rfl, ho, hg, fun g' hg' => .inr (by rw [show w.heap.size = g' from Option.some.inj hg']; exact Nat.le_refl _)⟩

set_option maxHeartbeats 1000000 in
theorem cloneE_any (g o cap : Nat) (es : List Ent) (w : World) (hc : ∀ j u, (ecs es)[j]? = some u → w.cell? ⟨g, o + j, none⟩ = some u) (hn : es.length ≤ 1000) :
    Calls Try.prog 49 #[.slice (some ⟨g, o, none⟩) es.length cap] w fun e w' => ∃ v', e = .returned v' ∧ OwE w' w.heap.size v' es ∧ Below w.heap.size w w' := by
  obtain ⟨i0, hi0, hz0, hz1, hz2⟩ := info_parts infoE
  have q := fun (W : World) (a : Option Addr) (n c : Nat) => Lib.run_eql_slice_nil (P := Try.prog) W 62 65 a n c 0 0 Try.underlying62
  have A1 : Below w.heap.size w (w.alloc (.cells #[] 65)) := (Below.refl _ _).alloc (Nat.le_refl _) _
  have hs : Src Try.prog 2 62 (.slice (some ⟨g, o, none⟩) es.length cap) es.length (ecs es) (w.alloc (.cells #[] 65)) :=
    Src.ofSlice _ Try.underlying62 ⟨g, o, none⟩ es.length cap (ecs es) (ecs_len es) (fun j u hu => by
      rw [Addr.add_lit]
      have h1 := hc j u hu
      exact (A1.cell (p := ⟨g, o + j, none⟩) (World.block_lt_of_cell? w _ h1)).trans h1) (ecs_one es)
  have hown : (w.alloc (.cells #[] 65)).ownsRow w.heap.size 65 2 (.slice (some ⟨w.heap.size, 0, none⟩) 0 0) 0 [] := World.ownsRow_made w #[] 0 (Nat.le_refl _) (by decide) rfl
  obtain ⟨n, hnl⟩ : ∃ n, es.length = n := ⟨_, rfl⟩
  have HN : Hid (es.length = n) := hnl
  rw [hnl] at hs hn ⊢
  clear hnl hc
  go_enter Try.func49, Try.ntmps49
  go_wp2_with (at_builtin; refine wpList_append_src rfl (.tmp 5) (.tmp 6) 62 62 rfl w.heap.size 65 i0 _ 2 24 Try.underlying62 hi0 hz0 hz1 hz2 rfl _ 0 [] rfl hown _ n (ecs es) rfl hs (by unfold maxLen; omega) (by omega) (by simp) ?_)
  intro v2 w2 ho2 hgrow2
  have b2 : Below w.heap.size w w2 := A1.grown hgrow2 (by simp) (fun k hk => by cases hk; exact Nat.le_refl _)
  have ho3 : OwE w2 w.heap.size v2 es := by unfold OwE; rw [HN.out]; simpa using ho2
  clear ho2 hgrow2 hs hown A1
  go_wp2
  go_ret
  exact ⟨_, rfl, ho3, b2⟩

theorem pcs_mid (es : List Nat) (x : Nat) (i : Nat) : (pcs es).take (i * 1) ++ ([.pointer (some ⟨x, 0, none⟩)] ++ (pcs es).drop (i * 1)) = pcs (es.take i ++ x :: es.drop i) := by
  rw [pcs_take, pcs_drop, pcs_append]
  rfl
theorem mid_lenN (es : List Nat) (x : Nat) (i : Nat) (h : i ≤ es.length) : (es.take i ++ x :: es.drop i).length = es.length + 1 := by
  rw [List.length_append, List.length_take, List.length_cons, List.length_drop]; omega
theorem insN_any (v : Value) (es : List Nat) (x : Nat) (i N vb : Nat) (w : World) (h : OwN w N v es) (hx : w.heap[vb]? = some (.cells #[.pointer (some ⟨x, 0, none⟩)] 55 (0, 0))) (hi : i ≤ es.length) (hn : es.length ≤ 1000) (hN : N ≤ w.heap.size) (hvb : v.ownBlock ≠ some vb) :
    Calls Try.prog 52 #[v, .int .i64 (i : Int), .slice (some ⟨vb, 0, none⟩) 1 1] w fun e w' => ∃ v', e = .returned v' ∧ OwN w' N v' (es.take i ++ x :: es.drop i) ∧ w.grownBy w' v.ownBlock ∧ ∀ g, v'.ownBlock = some g → v.ownBlock = some g ∨ w.heap.size ≤ g := by
  have h1x : ∀ u ∈ ([.pointer (some ⟨x, 0, none⟩)] : List Value), u.oneCell' = true := by simp [Value.oneCell']
  unfold OwN at *
  rw [mid_lenN es x i hi]
  rw [← pcs_mid es x i]
  by_cases he : i = es.length
  · subst he
    refine (insertN_end v es.length N vb (pcs es) [.pointer (some ⟨x, 0, none⟩)] w h hx rfl h1x hn hN).mono ?_
    rintro e w' ⟨v', rfl, ho, hg, hb⟩
    refine ⟨v', rfl, ?_, hg, fun g hg => ?_⟩
    · have e1 : (pcs es).take (es.length * 1) = pcs es := List.take_of_length_le (by rw [pcs_len]; exact Nat.le_refl _)
      have e2 : (pcs es).drop (es.length * 1) = [] := List.drop_of_length_le (by rw [pcs_len]; exact Nat.le_refl _)
      rw [e1, e2, List.append_nil]
      exact ho
    · rcases hb with e | e
      · exact .inl (e ▸ hg)
      · rw [e] at hg; cases hg; exact .inr (Nat.le_refl _)
  · rcases own_val h with ⟨rfl, h0⟩ | ⟨g, cap, rfl, hnc, hcm, hNg, hgl⟩
    · omega
    · have hne : vb ≠ g := fun e => hvb (by rw [e]; rfl)
      by_cases hr : es.length + 1 ≤ cap
      · refine (insertN_room g es.length cap i N vb (pcs es) [.pointer (some ⟨x, 0, none⟩)] w h (pcs_one es) hx rfl h1x (by omega) hr hne).mono ?_
        rintro e w' ⟨rfl, ho, hg⟩
        exact ⟨_, rfl, ho, hg, fun g' hg' => .inl hg'⟩
      · refine (insertN_grow g es.length cap i N vb (pcs es) [.pointer (some ⟨x, 0, none⟩)] w h (pcs_one es) hx rfl h1x (by omega) hr hn hN).mono ?_
        rintro e w' ⟨gc, rfl, ho, hg⟩
        exact ⟨_, rfl, ho, hg, fun g' hg' => .inr (by rw [show w.heap.size = g' from Option.some.inj hg']; exact Nat.le_refl _)⟩

set_option maxHeartbeats 1000000 in
theorem cloneN_any (g o cap : Nat) (es : List Nat) (w : World) (hc : ∀ j u, (pcs es)[j]? = some u → w.cell? ⟨g, o + j, none⟩ = some u) (hn : es.length ≤ 1000) :
    Calls Try.prog 50 #[.slice (some ⟨g, o, none⟩) es.length cap] w fun e w' => ∃ v', e = .returned v' ∧ OwN w' w.heap.size v' es ∧ Below w.heap.size w w' := by
  obtain ⟨i0, hi0, hz0, hz1, hz2⟩ := info_parts infoN
  have q := fun (W : World) (a : Option Addr) (n c : Nat) => Lib.run_eql_slice_nil (P := Try.prog) W 73 55 a n c 0 0 Try.underlying73
  have A1 : Below w.heap.size w (w.alloc (.cells #[] 55)) := (Below.refl _ _).alloc (Nat.le_refl _) _
  have hs : Src Try.prog 1 73 (.slice (some ⟨g, o, none⟩) es.length cap) es.length (pcs es) (w.alloc (.cells #[] 55)) :=
    Src.ofSlice _ Try.underlying73 ⟨g, o, none⟩ es.length cap (pcs es) (pcs_len es) (fun j u hu => by
      rw [Addr.add_lit]
      have h1 := hc j u hu
      exact (A1.cell (p := ⟨g, o + j, none⟩) (World.block_lt_of_cell? w _ h1)).trans h1) (pcs_one es)
  have hown : (w.alloc (.cells #[] 55)).ownsRow w.heap.size 55 1 (.slice (some ⟨w.heap.size, 0, none⟩) 0 0) 0 [] := World.ownsRow_made w #[] 0 (Nat.le_refl _) (by decide) rfl
  obtain ⟨n, hnl⟩ : ∃ n, es.length = n := ⟨_, rfl⟩
  have HN : Hid (es.length = n) := hnl
  rw [hnl] at hs hn ⊢
  clear hnl hc
  go_enter Try.func50, Try.ntmps50
  go_wp2_with (at_builtin; refine wpList_append_src rfl (.tmp 5) (.tmp 6) 73 73 rfl w.heap.size 55 i0 _ 1 8 Try.underlying73 hi0 hz0 hz1 hz2 rfl _ 0 [] rfl hown _ n (pcs es) rfl hs (by unfold maxLen; omega) (by omega) (by simp) ?_)
  intro v2 w2 ho2 hgrow2
  have b2 : Below w.heap.size w w2 := A1.grown hgrow2 (by simp) (fun k hk => by cases hk; exact Nat.le_refl _)
  have ho3 : OwN w2 w.heap.size v2 es := by unfold OwN; rw [HN.out]; simpa using ho2
  clear ho2 hgrow2 hs hown A1
  go_wp2
  go_ret
  exact ⟨_, rfl, ho3, b2⟩
end Go.Proofs.Ytmdembfnpmlmaaa
