/-
  The walk of DiskSure.
-/
import Derived.Test.YtecgjfghofpjcaaDkS0
import Derived.Deep.CutBlock
import Derived.BigRegion
namespace Go.Proofs.Ytecgjfghofpjcaa
open Go.RowKit Go.Maps

/-- An op as plain data. -/
structure Od where
  kd : Int
  n : Int
  ao : Option Addr
  m : Nat
  cap : Nat
  torn : Bool
  fo : Option Addr
  fn : Nat
  fc : Nat
  B : List UInt8
def Od.cells (s : Od) : Array Value := #[.int .i64 s.kd, .int .i64 s.n, .slice s.ao s.m s.cap, .bool s.torn, .slice s.fo s.fn s.fc]
def At5 (w : World) (b o : Nat) (s : Od) : Prop := ∀ j v, s.cells[j]? = some v → w.cell? ⟨b, o + j, none⟩ = some v
def OpsW (w : World) (ao : Option Addr) (ss : List Od) : Prop :=
  (0 < ss.length → ∃ b off, b < w.heap.size ∧ ao = some ⟨b, off, none⟩ ∧ ∀ i (h : i < ss.length), At5 w b (off + i * 5) ss[i]) ∧ ∀ i (h : i < ss.length), Rd w ss[i].ao ss[i].m ss[i].cap ss[i].B ∧ wf64 ss[i].kd ∧ wf64 ss[i].n

end Go.Proofs.Ytecgjfghofpjcaa
