/-
  What CodecBack leans on: numbers and texts that are written one behind the other are read one behind the other; slices of numbers and of texts that came in.
-/
import Derived.Test.YtdjilmcpkeckoaaDoorFrm
import Derived.Test.YtdjilmcpkeckoaaDoorRdr3
import Derived.SliceStrings
namespace Go.Proofs.YtdjilmcpkeckoaaDoor
open Go.ChangeShapes Go.WideShapes Go.ChangeAt Go.WideMaps Go.WideElems Go.RowKit

def nums (zs : List Int) : List UInt8 := zs.flatMap numBytes
def texts (ss : List ByteArray) : List UInt8 := ss.flatMap textBytes

theorem nums_take (zs : List Int) (k : Nat) (h : k < zs.length) : nums (zs.take (k + 1)) = nums (zs.take k) ++ numBytes zs[k] := by
  unfold nums
  rw [← List.take_append_getElem h]
  simp only [List.flatMap_append, List.flatMap_cons, List.flatMap_nil, List.append_nil]
theorem texts_take (ss : List ByteArray) (k : Nat) (h : k < ss.length) : texts (ss.take (k + 1)) = texts (ss.take k) ++ textBytes ss[k] := by
  unfold texts
  rw [← List.take_append_getElem h]
  simp only [List.flatMap_append, List.flatMap_cons, List.flatMap_nil, List.append_nil]
theorem nums_len (zs : List Int) : (nums zs).length ≤ 10 * zs.length := by
  induction zs with
  | nil => simp [nums]
  | cons z zs ih =>
    have := (numBytes_len z).2
    simp only [nums, List.flatMap_cons, List.length_append, List.length_cons] at *
    omega
theorem text_len (s : ByteArray) (h : s.size ≤ 10000) : (textBytes s).length ≤ 10010 := by
  have := (numBytes_len (s.size : Int)).2
  have e : s.data.toList.length = s.size := rfl
  simp only [textBytes, List.length_append]
  omega
theorem texts_len (ss : List ByteArray) (h : ∀ s ∈ ss, s.size ≤ 10000) : (texts ss).length ≤ 10010 * ss.length := by
  induction ss with
  | nil => simp [texts]
  | cons s ss ih =>
    have := text_len s (h s (by simp))
    have := ih fun s hs => h s (by simp [hs])
    simp only [texts, List.flatMap_cons, List.length_append, List.length_cons] at *
    omega
theorem nums_split (zs : List Int) (k : Nat) (h : k < zs.length) : nums zs = nums (zs.take k) ++ (numBytes zs[k] ++ nums (zs.drop (k + 1))) := by
  have e : zs = zs.take k ++ zs[k] :: zs.drop (k + 1) := by rw [List.getElem_cons_drop, List.take_append_drop]
  have e2 : nums zs = nums (zs.take k ++ zs[k] :: zs.drop (k + 1)) := by rw [← e]
  rw [e2]
  simp only [nums, List.flatMap_append, List.flatMap_cons]
theorem texts_split (ss : List ByteArray) (k : Nat) (h : k < ss.length) : texts ss = texts (ss.take k) ++ (textBytes ss[k] ++ texts (ss.drop (k + 1))) := by
  have e : ss = ss.take k ++ ss[k] :: ss.drop (k + 1) := by rw [List.getElem_cons_drop, List.take_append_drop]
  have e2 : texts ss = texts (ss.take k ++ ss[k] :: ss.drop (k + 1)) := by rw [← e]
  rw [e2]
  simp only [texts, List.flatMap_append, List.flatMap_cons]
theorem drop_len (a b : List UInt8) : (a ++ b).drop a.length = b := by simp

theorem take_num (z : Int) (h0 : -9223372036854775808 ≤ z) (h1 : z ≤ 9223372036854775807) (r : List UInt8) : takeN (numBytes z ++ r) = (foldN z, (numBytes z).length, 0) := takeN_nb (foldN z) (foldN_lt z h0 h1) r

theorem read_num (zs : List Int) (T : List UInt8) (k : Nat) (h : k < zs.length) (h0 : -9223372036854775808 ≤ zs[k]) (h1 : zs[k] ≤ 9223372036854775807) :
    rNum (nums zs ++ T) (nums (zs.take k)).length 0 = (zs[k], (nums (zs.take (k + 1))).length, 0) := by
  have e : (nums zs ++ T).drop (nums (zs.take k)).length = numBytes zs[k] ++ (nums (zs.drop (k + 1)) ++ T) := by
    rw [nums_split zs k h, List.append_assoc, drop_len, List.append_assoc]
  unfold rNum
  rw [if_neg (by simp), e, take_num _ h0 h1, nums_take zs k h, List.length_append]
  have : numOf (foldN zs[k], (numBytes zs[k]).length, 0) = zs[k] := by
    show unfoldN (foldN zs[k]) = _
    exact unfold_fold _
  rw [this]

theorem len_take (n : Nat) (hn : n ≤ 1048576) (r : List UInt8) : takeL (numBytes (n : Int) ++ r) = (n, (numBytes (n : Int)).length, 0) := by
  have e' := take_num (n : Int) (by omega) (by omega) r
  have hu : numOf (takeN (numBytes (n : Int) ++ r)) = (n : Int) := by
    rw [e']
    show unfoldN (foldN (n : Int)) = _
    exact unfold_fold _
  unfold takeL
  rw [hu, e']
  rw [if_neg (by simp), if_neg (by omega)]
  rw [Int.toNat_natCast]

theorem take_text (s : ByteArray) (hs : s.size ≤ 1048576) (r : List UInt8) : takeT (textBytes s ++ r) = (s.data.toList, (textBytes s).length, 0) := by
  have e : textBytes s ++ r = numBytes (s.size : Int) ++ (s.data.toList ++ r) := by simp [textBytes]
  have hl : s.data.toList.length = s.size := rfl
  have e1 := len_take s.size hs (s.data.toList ++ r)
  unfold takeT
  rw [e, e1]
  rw [if_neg (by simp), if_neg (by simp only [List.length_append]; omega)]
  rw [drop_len]
  have ht : (s.data.toList ++ r).take s.size = s.data.toList := by rw [← hl]; simp
  show ((s.data.toList ++ r).take s.size, (numBytes (s.size : Int)).length + s.size, 0) = _
  rw [ht]
  simp [textBytes]

theorem read_text (A : List UInt8) (ss : List ByteArray) (k : Nat) (h : k < ss.length) (hs : ss[k].size ≤ 10000) :
    rTxt (A ++ texts ss) (A.length + (texts (ss.take k)).length) 0 = (ss[k].data.toList, A.length + (texts (ss.take (k + 1))).length, 0) := by
  have e : (A ++ texts ss).drop (A.length + (texts (ss.take k)).length) = textBytes ss[k] ++ texts (ss.drop (k + 1)) := by
    rw [texts_split ss k h, ← List.append_assoc, ← List.length_append, drop_len]
  unfold rTxt
  rw [if_neg (by simp), e, take_text _ (by omega), texts_take ss k h, List.length_append, Nat.add_assoc]

/-- The first of a slice's elements, as many as zs has, are the numbers zs. -/
def CellsZ (w : World) (ao : Option Addr) (zs : List Int) : Prop :=
  0 < zs.length → ∃ b off, ao = some ⟨b, off, none⟩ ∧ ∀ i (h : i < zs.length), w.cell? ⟨b, off + i, none⟩ = some (.int .i64 zs[i])
def CellsS (w : World) (ao : Option Addr) (ss : List ByteArray) : Prop :=
  0 < ss.length → ∃ b off, ao = some ⟨b, off, none⟩ ∧ ∀ i (h : i < ss.length), w.cell? ⟨b, off + i, none⟩ = some (.string ss[i])

theorem CellsZ.cut {w : World} {ao : Option Addr} {zs : List Int} (h : CellsZ w ao zs) (k : Nat) : CellsZ w ao (zs.take k) := by
  intro hp
  simp only [List.length_take] at hp
  obtain ⟨b, off, e, hc⟩ := h (by omega)
  exact ⟨b, off, e, fun i hi => by simp only [List.length_take] at hi; rw [List.getElem_take]; exact hc i (by omega)⟩
theorem CellsS.cut {w : World} {ao : Option Addr} {ss : List ByteArray} (h : CellsS w ao ss) (k : Nat) : CellsS w ao (ss.take k) := by
  intro hp
  simp only [List.length_take] at hp
  obtain ⟨b, off, e, hc⟩ := h (by omega)
  exact ⟨b, off, e, fun i hi => by simp only [List.length_take] at hi; rw [List.getElem_take]; exact hc i (by omega)⟩

theorem ints_open {H : Type} {enc : TypeId × Value → H} {W : World} {a : Option Addr} {len cap fuel : Nat} {cs : List Value} {x : DataW H × List MemPlace}
    (hf : DataW.trod enc Tryd.prog W 0 (fun _ => true) true fuel 38 cs = some x) (hcs : cs = [.slice a len cap]) :
    ∃ zs : List Int, (CellsZ W a zs ∧ zs.length = len ∧ len ≤ cap ∧ cap ≤ maxLen ∧ ∀ z ∈ zs, -9223372036854775808 ≤ z ∧ z ≤ 9223372036854775807) ∧ (cap = 0 ∨ ∃ es sp, x.1 = .slice es sp ∧ es.length + sp.length = cap) := by
  subst hcs
  rcases open_ints Tryd.underlying38 Tryd.underlying3 (by kernel_rfl) hf with ⟨hcs, _⟩ | ⟨y, l, c, zs, hcs, _, hl, hm, hz, hx, hcell, hwz⟩
  · simp at hcs
    obtain ⟨rfl, rfl, rfl⟩ := hcs
    exact ⟨[], ⟨fun h => by simp at h, rfl, Nat.le_refl _, Nat.zero_le _, fun z h => by simp at h⟩, .inl rfl⟩
  · simp at hcs
    obtain ⟨rfl, rfl, rfl⟩ := hcs
    have hzl : zs.length = cap := by simpa using hz
    refine ⟨zs.take len, ⟨fun hp => ?_, by simp; omega, hl, hm, fun z h => bounds_i64 (hwz z (List.mem_of_mem_take h))⟩, .inr ⟨_, _, by rw [hx], by simp [lits]; omega⟩⟩
    simp only [List.length_take] at hp
    obtain ⟨b, off, spot⟩ := y
    have h0 := hcell 0 (by omega)
    have hspot : spot = none := by simpa [Addr.add] using World.cell?_spot h0
    subst hspot
    refine ⟨b, off, rfl, fun i hi => ?_⟩
    simp only [List.length_take] at hi
    have hci := hcell i (by omega)
    rw [Addr.add_lit] at hci
    rw [hci, List.getElem_take]
    simp [List.getD, show i < zs.length by omega]

theorem strs_open {H : Type} {enc : TypeId × Value → H} {W : World} {a : Option Addr} {len cap fuel : Nat} {cs : List Value} {x : DataW H × List MemPlace}
    (hf : DataW.trod enc Tryd.prog W 0 (fun _ => true) true fuel 58 cs = some x) (hcs : cs = [.slice a len cap]) :
    ∃ ss : List ByteArray, (CellsS W a ss ∧ ss.length = len ∧ len ≤ cap ∧ cap ≤ maxLen ∧ ∀ s ∈ ss, s.size ≤ maxLen) ∧ (cap = 0 ∨ ∃ es sp, x.1 = .slice es sp ∧ es.length + sp.length = cap) := by
  subst hcs
  rcases open_strings Tryd.underlying58 Tryd.underlying9 (by kernel_rfl) hf with ⟨hcs, _⟩ | ⟨y, l, c, zs, hcs, _, hl, hm, hz, hx, hcell, hwz⟩
  · simp at hcs
    obtain ⟨rfl, rfl, rfl⟩ := hcs
    exact ⟨[], ⟨fun h => by simp at h, rfl, Nat.le_refl _, Nat.zero_le _, fun z h => by simp at h⟩, .inl rfl⟩
  · simp at hcs
    obtain ⟨rfl, rfl, rfl⟩ := hcs
    have hzl : zs.length = cap := by simpa using hz
    refine ⟨zs.take len, ⟨fun hp => ?_, by simp; omega, hl, hm, fun z h => hwz z (List.mem_of_mem_take h)⟩, .inr ⟨_, _, by rw [hx], by simp [strs]; omega⟩⟩
    simp only [List.length_take] at hp
    obtain ⟨b, off, spot⟩ := y
    have h0 := hcell 0 (by omega)
    have hspot : spot = none := by simpa [Addr.add] using World.cell?_spot h0
    subst hspot
    refine ⟨b, off, rfl, fun i hi => ?_⟩
    simp only [List.length_take] at hi
    have hci := hcell i (by omega)
    rw [Addr.add_lit] at hci
    rw [hci, List.getElem_take]
    simp [List.getD, show i < zs.length by omega]
end Go.Proofs.YtdjilmcpkeckoaaDoor
