/-
  How tokens are read into nodes, as a function: with no program in it but what a node, a token and a sign are.
-/
import Derived.Test.YtclhmmgdhagloaaGreatDoorERdr3
namespace Go.Proofs.YtclhmmgdhagloaaGreatDoor

/-- Where a reading has come to: its error, its place, its nodes. -/
abbrev Rz := Nat × Nat × List Nd
def opX (op : Nat) : Nd := ⟨op, [], [], vz0, 0⟩
/-- Parts, parted by the signs of ops. -/
def stepsF (N : Nat → Ti) (f c : Nat) (part : Nat → List Nd → Rz) : Nat → Nat → Nat → List Nd → Rz
  | 0, _, k, acc => (99, k, acc)
  | m + 1, op, k, acc =>
    if (part k acc).1 = 0 then
      (if opAt (N (part k acc).2.1).t f c = 0 then (0, (part k acc).2.1, if op = 0 then (part k acc).2.2 else putN (part k acc).2.2 (opX op))
       else stepsF N f c part m (opAt (N (part k acc).2.1).t f c) ((part k acc).2.1 + 1) (if op = 0 then (part k acc).2.2 else putN (part k acc).2.2 (opX op)))
    else part k acc

/-- The parts of the grammar. -/
inductive NT | ex | an | no | co | su | te | un | en
def NT.rank : NT → Nat
  | .un => 1 | .te => 2 | .su => 3 | .co => 4 | .no => 5 | .an => 6 | .ex => 7 | .en => 8

abbrev wNot : List UInt8 := [110, 111, 116]
abbrev wIs : List UInt8 := [105, 115]
abbrev wNull : List UInt8 := [110, 117, 108, 108]
/-- What stands behind an is. -/
def nullF (N : Nat → Ti) (k : Nat) (acc : List Nd) : Rz :=
  if (N k).t == wNot then (if (N (k + 1)).t == wNull then (0, k + 2, putN (putN acc (opX 5)) (opX 4)) else (30, k + 1, acc))
  else (if (N k).t == wNull then (0, k + 1, putN acc (opX 5)) else (30, k, acc))
/-- The arguments of a call, and how many there are. -/
def argsL (N : Nat → Ti) (part : Nat → List Nd → Rz) : Nat → Nat → List Nd → Nat → Rz × Nat
  | 0, k, acc, c => ((30, k, acc), c)
  | m + 1, k, acc, c =>
    if (part k acc).1 = 0 then
      (if (N (part k acc).2.1).t == [44] then argsL N part m ((part k acc).2.1 + 1) (part k acc).2.2 (c + 1)
       else if (N (part k acc).2.1).t == [41] then ((0, (part k acc).2.1 + 1, (part k acc).2.2), c + 1)
       else ((30, (part k acc).2.1, (part k acc).2.2), c + 1))
    else (part k acc, c)
def argsF (N : Nat → Ti) (part : Nat → List Nd → Rz) (k : Nat) (acc : List Nd) : Rz × Nat :=
  if (N k).t == [41] then ((0, k + 1, acc), 0) else argsL N part 4 k acc 0
/-- A column or a call. -/
def colF (N : Nat → Ti) (part : Nat → List Nd → Rz) (k : Nat) (acc : List Nd) (o : Nat) : Rz :=
  if nmT (N k) then
    (if (N (k + 1)).t == [40] then
      (if o = 64 then (38, k + 2, putN acc ⟨19, [], (N k).t, vz0, 0⟩)
       else ((argsF N part (k + 2) acc).1.1, (argsF N part (k + 2) acc).1.2.1, putN (argsF N part (k + 2) acc).1.2.2 ⟨19, [], (N k).t, vz0, ((argsF N part (k + 2) acc).2 : Int)⟩))
     else if (N (k + 1)).t == [46] then
      (if nmT (N (k + 2)) then (0, k + 3, putN acc ⟨2, (N k).t, (N (k + 2)).t, vz0, 0⟩) else (30, k + 2, acc))
     else (0, k + 1, putN acc ⟨2, [], (N k).t, vz0, 0⟩))
  else (30, k, acc)

/-- How a part of the grammar is read. -/
def rdx (N : Nat → Ti) (V : List UInt8 → Option Va) (M : Nat) : Nat → NT → Nat → List Nd → Nat → Rz
  | 0, _, k, acc, _ => (99, k, acc)
  | n + 1, .ex, k, acc, o => stepsF N 18 1 (fun k acc => rdx N V M n .an k acc o) M 0 k acc
  | n + 1, .an, k, acc, o => stepsF N 17 1 (fun k acc => rdx N V M n .no k acc o) M 0 k acc
  | n + 1, .no, k, acc, o =>
    if (N k).t == wNot then
      (if o = 64 then (38, k + 1, putN acc (opX 4)) else ((rdx N V M n .no (k + 1) acc (o + 1)).1, (rdx N V M n .no (k + 1) acc (o + 1)).2.1, putN (rdx N V M n .no (k + 1) acc (o + 1)).2.2 (opX 4)))
    else rdx N V M n .co k acc o
  | n + 1, .co, k, acc, o =>
    if (rdx N V M n .su k acc o).1 = 0 then
      (if (N (rdx N V M n .su k acc o).2.1).t == wIs then nullF N ((rdx N V M n .su k acc o).2.1 + 1) (rdx N V M n .su k acc o).2.2
       else if opAt (N (rdx N V M n .su k acc o).2.1).t 11 6 = 0 then rdx N V M n .su k acc o
       else ((rdx N V M n .su ((rdx N V M n .su k acc o).2.1 + 1) (rdx N V M n .su k acc o).2.2 o).1, (rdx N V M n .su ((rdx N V M n .su k acc o).2.1 + 1) (rdx N V M n .su k acc o).2.2 o).2.1,
         putN (rdx N V M n .su ((rdx N V M n .su k acc o).2.1 + 1) (rdx N V M n .su k acc o).2.2 o).2.2 (opX (opAt (N (rdx N V M n .su k acc o).2.1).t 11 6))))
    else rdx N V M n .su k acc o
  | n + 1, .su, k, acc, o => stepsF N 9 2 (fun k acc => rdx N V M n .te k acc o) M 0 k acc
  | n + 1, .te, k, acc, o => stepsF N 6 3 (fun k acc => rdx N V M n .un k acc o) M 0 k acc
  | n + 1, .un, k, acc, o =>
    if (N k).t == [45] then
      (if o = 64 then (38, k + 1, putN acc (opX 3)) else ((rdx N V M n .un (k + 1) acc (o + 1)).1, (rdx N V M n .un (k + 1) acc (o + 1)).2.1, putN (rdx N V M n .un (k + 1) acc (o + 1)).2.2 (opX 3)))
    else if (N k).t == [40] then
      (if o = 64 then (38, k + 1, acc) else rdx N V M n .en (k + 1) acc (o + 1))
    else match V (N k).t with
      | some v => (0, k + 1, putN acc ⟨1, [], [], v, 0⟩)
      | none => colF N (fun k acc => rdx N V M n .ex k acc (o + 1)) k acc o
  | n + 1, .en, k, acc, o =>
    if (rdx N V M n .ex k acc o).1 = 0 then
      (if (N (rdx N V M n .ex k acc o).2.1).t == [41] then (0, (rdx N V M n .ex k acc o).2.1 + 1, (rdx N V M n .ex k acc o).2.2) else (30, (rdx N V M n .ex k acc o).2.1, (rdx N V M n .ex k acc o).2.2))
    else rdx N V M n .ex k acc o

def fnOf : NT → Nat
  | .ex => 74 | .an => 137 | .no => 200 | .co => 250 | .su => 275 | .te => 300 | .un => 314 | .en => 329

/-- What a part of the reader does with a state, told by a function. -/
def Does (w0 : World) (ao : Option Addr) (ts : List Ti) (cap p : Nat) (fn : Nat) (o k : Nat) (_acc : List Nd) (nv : Value) (w : World) (r : Rz) : Prop :=
  Calls Tryz.prog fn #[.pointer (some ⟨p, 0, none⟩)] w fun e w' => e = .returned (.int .i64 (r.1 : Int)) ∧ (∃ nv', Stt w0 ao ts cap p w' r.2.1 nv' r.2.2 o ∧ Goes p w w' nv nv') ∧ k ≤ r.2.1
end Go.Proofs.YtclhmmgdhagloaaGreatDoor
