/-
  Pages as plain data: slots, the bytes of a page with these slots, and that the slots are read back out of them. Nothing of the program's code is in it.
-/
import Derived.Test.YtaghbkjjindjfaaDoorSums
import Derived.Laws.CopyOwn
namespace Go.Proofs.YtaghbkjjindjfaaDoor
open Go.RowKit

/-- A slot: a record, or none. -/
abbrev Slt := Option (List UInt8)
def sb (s : Slt) : List UInt8 := s.getD []
def used : List Slt → Nat
  | [] => 0
  | s :: l => (sb s).length + used l
def recs : List Slt → List UInt8
  | [] => []
  | s :: l => recs l ++ sb s
def two (n : Nat) : List UInt8 := [UInt8.ofNat (n / 256), UInt8.ofNat (n % 256)]
/-- A slot's four bytes, where records end at a. -/
def fldB (a : Nat) : Slt → List UInt8
  | none => [0, 0, 0, 0]
  | some b => two (a - b.length) ++ two b.length
def heads : Nat → List Slt → List UInt8
  | _, [] => []
  | a, s :: l => fldB a s ++ heads (a - (sb s).length) l
def fits (l : List Slt) : Prop := 4 * l.length + used l ≤ 502
instance (l : List Slt) : Decidable (fits l) := by unfold fits; infer_instance
def bodyL (l : List Slt) : List UInt8 := two l.length ++ (heads 504 l ++ (List.replicate (502 - (4 * l.length + used l)) 0 ++ recs l))
def pageL (l : List Slt) : List UInt8 := bodyL l ++ eight (crc (bodyL l))

theorem used_append (l m : List Slt) : used (l ++ m) = used l + used m := by
  induction l with
  | nil => simp [used]
  | cons s l ih => simp [used, ih]; omega
theorem recs_append (l m : List Slt) : recs (l ++ m) = recs m ++ recs l := by
  induction l with
  | nil => simp [recs]
  | cons s l ih => simp [recs, ih]
theorem recs_len (l : List Slt) : (recs l).length = used l := by
  induction l with
  | nil => rfl
  | cons s l ih => simp [recs, used, ih]; omega
theorem two_len (n : Nat) : (two n).length = 2 := rfl
theorem fldB_len (a : Nat) (s : Slt) : (fldB a s).length = 4 := by cases s <;> simp [fldB, two]
theorem heads_len (l : List Slt) : ∀ a, (heads a l).length = 4 * l.length := by
  induction l with
  | nil => intro a; rfl
  | cons s l ih => intro a; simp [heads, fldB_len, ih]; omega
theorem heads_append (l m : List Slt) : ∀ a, heads a (l ++ m) = heads a l ++ heads (a - used l) m := by
  induction l with
  | nil => intro a; simp [heads, used]
  | cons s l ih => intro a; simp [heads, used, ih, Nat.sub_sub]
theorem bodyL_len (l : List Slt) (h : fits l) : (bodyL l).length = 504 := by
  unfold fits at h
  simp [bodyL, two_len, heads_len, recs_len]; omega
theorem pageL_len (l : List Slt) (h : fits l) : (pageL l).length = 512 := by
  simp [pageL, bodyL_len l h, eight_length]
theorem fits_take (l : List Slt) (k : Nat) (h : fits l) : fits (l.take k) := by
  unfold fits at *
  have e := used_append (l.take k) (l.drop k)
  rw [List.take_append_drop] at e
  simp; omega

/-! ### what bytes tell of slots -/
def bt (bs : List UInt8) (k : Nat) : Nat := (bs.getD k 0).toNat
def fld (bs : List UInt8) (k : Nat) : Nat := 256 * bt bs k + bt bs (k + 1)
theorem fld_lt (bs : List UInt8) (k : Nat) : fld bs k < 65536 := by
  unfold fld bt
  have h1 := (bs.getD k 0).toNat_lt
  have h2 := (bs.getD (k + 1) 0).toNat_lt
  omega
theorem bt_at (A R : List UInt8) (x : UInt8) (k : Nat) (h : A.length = k) : bt (A ++ x :: R) k = x.toNat := by
  subst h; simp [bt]
theorem fld_two (A R : List UInt8) (n k : Nat) (h : A.length = k) (hn : n < 65536) : fld (A ++ (two n ++ R)) k = n := by
  have e1 : bt (A ++ (two n ++ R)) k = n / 256 := by
    show bt (A ++ UInt8.ofNat (n / 256) :: _) k = _
    rw [bt_at _ _ _ _ h, UInt8.toNat_ofNat']; omega
  have e2 : bt (A ++ (two n ++ R)) (k + 1) = n % 256 := by
    have : A ++ (two n ++ R) = (A ++ [UInt8.ofNat (n / 256)]) ++ UInt8.ofNat (n % 256) :: R := by simp [two]
    rw [this, bt_at _ _ _ _ (by simp [h]), UInt8.toNat_ofNat']; omega
  unfold fld; rw [e1, e2]; omega

/-- What the slot number i is told as: none: there the going through ends. -/
def slotAt (bs : List UInt8) (i : Nat) : Option Slt :=
  if 504 < fld bs (2 + 4 * i) + fld bs (4 + 4 * i) then none
  else some (if fld bs (2 + 4 * i) = 0 then none else some ((bs.drop (fld bs (2 + 4 * i))).take (fld bs (4 + 4 * i))))
def rdGo (bs : List UInt8) : Nat → Nat → List Slt
  | 0, _ => []
  | f + 1, i => match slotAt bs i with
    | none => []
    | some s => s :: rdGo bs f (i + 1)
def cnt (bs : List UInt8) : Nat := min (fld bs 0) 125
def rdS (bs : List UInt8) : List Slt := rdGo bs (cnt bs) 0
theorem rdGo_of (bs : List UInt8) : ∀ (m : List Slt) (i : Nat), (∀ j (h : j < m.length), slotAt bs (i + j) = some m[j]) → rdGo bs m.length i = m := by
  intro m
  induction m with
  | nil => intro i _; rfl
  | cons s m ih =>
    intro i h
    have h0 := h 0 (by simp)
    simp only [Nat.add_zero, List.getElem_cons_zero] at h0
    simp only [List.length_cons, rdGo, h0]
    rw [ih (i + 1) (fun j hj => by have := h (j + 1) (by simp; omega); simpa [Nat.add_assoc, Nat.add_comm 1] using this)]
theorem rdGo_len (bs : List UInt8) : ∀ (f i : Nat), (rdGo bs f i).length ≤ f := by
  intro f
  induction f with
  | zero => intro i; simp [rdGo]
  | succ f ih =>
    intro i
    unfold rdGo
    split
    · simp
    · have := ih (i + 1); simp; omega

theorem body_split (l1 l2 : List Slt) (s : Slt) : ∃ R, pageL (l1 ++ s :: l2) = (two (l1.length + (l2.length + 1)) ++ heads 504 l1) ++ (fldB (504 - used l1) s ++ R) := by
  unfold pageL
  generalize eight (crc (bodyL (l1 ++ s :: l2))) = e
  refine ⟨heads (504 - used l1 - (sb s).length) l2 ++ (List.replicate (502 - (4 * (l1.length + (l2.length + 1)) + used (l1 ++ s :: l2))) 0 ++ (recs (l1 ++ s :: l2) ++ e)), ?_⟩
  simp only [bodyL, heads_append, heads, List.append_assoc, List.length_append, List.length_cons]
theorem rec_split (l1 l2 : List Slt) (b : List UInt8) (h : fits (l1 ++ some b :: l2)) : ∃ A R, pageL (l1 ++ some b :: l2) = A ++ (b ++ R) ∧ A.length = 504 - used l1 - b.length := by
  have hl := bodyL_len _ h
  unfold pageL
  generalize eight (crc (bodyL (l1 ++ some b :: l2))) = e
  have hr : recs (l1 ++ some b :: l2) = recs l2 ++ (b ++ recs l1) := by simp [recs_append, recs, sb]
  refine ⟨two (l1 ++ some b :: l2).length ++ (heads 504 (l1 ++ some b :: l2) ++ (List.replicate (502 - (4 * (l1 ++ some b :: l2).length + used (l1 ++ some b :: l2))) 0 ++ recs l2)), recs l1 ++ e, ?_, ?_⟩
  · unfold bodyL; rw [hr]; simp only [List.append_assoc]
  · unfold bodyL at hl
    rw [hr] at hl
    simp only [List.length_append, recs_len] at hl ⊢
    omega
theorem fits_count {l : List Slt} (h : fits l) : l.length ≤ 125 := by unfold fits at h; omega

theorem slotAt_page (l1 l2 : List Slt) (s : Slt) (h : fits (l1 ++ s :: l2)) : slotAt (pageL (l1 ++ s :: l2)) l1.length = some s := by
  have hf := h
  unfold fits at hf
  rw [used_append] at hf
  simp only [List.length_append, List.length_cons, used] at hf
  obtain ⟨R, e⟩ := body_split l1 l2 s
  have hA : (two (l1.length + (l2.length + 1)) ++ heads 504 l1).length = 2 + 4 * l1.length := by simp [two_len, heads_len]
  cases s with
  | none =>
    have e1 : fld (pageL (l1 ++ none :: l2)) (2 + 4 * l1.length) = 0 := by
      rw [e]
      exact fld_two _ _ 0 _ hA (by decide)
    have e2 : fld (pageL (l1 ++ none :: l2)) (4 + 4 * l1.length) = 0 := by
      rw [e]
      have : (two (l1.length + (l2.length + 1)) ++ heads 504 l1) ++ (fldB (504 - used l1) none ++ R) = ((two (l1.length + (l2.length + 1)) ++ heads 504 l1) ++ [0, 0]) ++ (two 0 ++ R) := by simp [fldB, two]
      rw [this]
      exact fld_two _ _ 0 _ (by rw [List.length_append, hA]; simp; omega) (by decide)
    unfold slotAt
    rw [e1, e2]
    simp
  | some b =>
    simp only [sb, Option.getD_some] at hf
    have e1 : fld (pageL (l1 ++ some b :: l2)) (2 + 4 * l1.length) = 504 - used l1 - b.length := by
      rw [e]
      have : (two (l1.length + (l2.length + 1)) ++ heads 504 l1) ++ (fldB (504 - used l1) (some b) ++ R) = (two (l1.length + (l2.length + 1)) ++ heads 504 l1) ++ (two (504 - used l1 - b.length) ++ (two b.length ++ R)) := by simp [fldB]
      rw [this]
      exact fld_two _ _ _ _ hA (by omega)
    have e2 : fld (pageL (l1 ++ some b :: l2)) (4 + 4 * l1.length) = b.length := by
      rw [e]
      have : (two (l1.length + (l2.length + 1)) ++ heads 504 l1) ++ (fldB (504 - used l1) (some b) ++ R) = ((two (l1.length + (l2.length + 1)) ++ heads 504 l1) ++ two (504 - used l1 - b.length)) ++ (two b.length ++ R) := by simp [fldB]
      rw [this]
      exact fld_two _ _ _ _ (by rw [List.length_append, hA, two_len]; omega) (by omega)
    obtain ⟨A, R2, e3, hA2⟩ := rec_split l1 l2 b h
    unfold slotAt
    rw [e1, e2, if_neg (by omega), if_neg (by omega), e3]
    have e4 : (A ++ (b ++ R2)).drop (504 - used l1 - b.length) = b ++ R2 := by rw [← hA2]; simp
    rw [e4]
    simp

theorem cnt_page (l : List Slt) (h : fits l) : fld (pageL l) 0 = l.length := by
  have := fits_count h
  unfold pageL bodyL
  rw [List.append_assoc]
  exact fld_two [] _ l.length 0 rfl (by omega)

/-- The slots of a page are read back. -/
theorem rdS_page (l : List Slt) (h : fits l) : rdS (pageL l) = l := by
  have hc : cnt (pageL l) = l.length := by
    unfold cnt
    rw [cnt_page l h]
    have := fits_count h
    omega
  unfold rdS
  rw [hc]
  refine rdGo_of _ l 0 fun j hj => ?_
  have e : l = l.take j ++ l[j] :: l.drop (j + 1) := by simp
  have hfit : fits (l.take j ++ l[j] :: l.drop (j + 1)) := by rw [← e]; exact h
  have := slotAt_page (l.take j) (l.drop (j + 1)) l[j] hfit
  rw [← e, List.length_take, Nat.min_eq_left (by omega)] at this
  rw [Nat.zero_add]
  exact this

/-! ### which bytes are a page -/
def lastOk (l : List Slt) : Prop := l.getLast? ≠ some none
instance (l : List Slt) : Decidable (lastOk l) := by unfold lastOk; infer_instance
/-- The slots of the page that bs is; none: it is no page. -/
def pg (bs : List UInt8) : Option (List Slt) := if bs.length = 512 ∧ fits (rdS bs) ∧ lastOk (rdS bs) ∧ bs = pageL (rdS bs) then some (rdS bs) else none
theorem pg_page (l : List Slt) (h : fits l) (hl : lastOk l) : pg (pageL l) = some l := by
  unfold pg
  rw [rdS_page l h, if_pos ⟨pageL_len l h, h, hl, rfl⟩]
theorem pg_some {bs : List UInt8} {l : List Slt} (h : pg bs = some l) : bs = pageL l ∧ fits l ∧ lastOk l ∧ rdS bs = l ∧ bs.length = 512 := by
  unfold pg at h
  split at h
  · rename_i hc
    obtain rfl := Option.some.inj h
    exact ⟨hc.2.2.2, hc.2.1, hc.2.2.1, rfl, hc.1⟩
  · cases h
def strip : List Slt → List Slt
  | [] => []
  | s :: l => match strip l, s with
    | [], none => []
    | m, s => s :: m
end Go.Proofs.YtaghbkjjindjfaaDoor
