/-
  num, knows.
-/
import Derived.Test.YtonjjbmjholkjaaGreatDoorDkN
import Derived.Lib.SmallJoins
namespace Go.Proofs.YtonjjbmjholkjaaGreatDoor
open Go.RowKit Go.Maps

/-- A crash where nothing was written since the last sync. -/
theorem dcrash_none (h : Wh) (no nf : Nat) (d : Dk) (keep : Int) (torn : Bool) (fs : Value) (w : World) (hd : DkW w h no nf d) (hf : d.fresh = none') (hnf : nf ≤ 17592186044416) :
    Calls Tryz.prog 20 #[.pointer (some ⟨h.B, 0, none⟩), .int .i64 keep, .bool torn, fs] w fun e w' => (∃ v, e = .returned v) ∧ ∃ mf', DkW w' { h with mf := mf' } no 0 { d with lo := d.lo.crash keep torn, fresh := none', off := false, left := -1 } ∧ Chg h.has w w' ∧ w.heap.size ≤ mf' :=
  dcrash_of h no nf d keep torn fs w hd d.old no (fun W _ hW => (pcrash_none h.P h.mo h.mf no nf d.count d.old fs W (by rw [← hf]; exact hW) hnf).mono (fun e w' q => ⟨q.1, q.2.1, q.2.2.mono (fun _ _ e => .inl e)⟩))

end Go.Proofs.YtonjjbmjholkjaaGreatDoor
