/-
  NARROWER THAN 'FOR EVERY INPUT', by the rows' own cells (each row's printed sentence says how): DecimalOrder: laid · DecimalNear: laid · DecimalSigns: laid.
  DERIVED. THE GIVEN ROWS OF THIS SEAT. 3 by the template 'for every input the law returns true; each argument reads behind the call as it read before'; 0 by the template 'total and deterministic' (their statements: YtfbkakchaabgeabDoorTotals.lean).
  GIVEN WITH THE SEED: the statements are not yours to turn. If you find one false, say at which input.
  Laid BY PROGRAM, IN A SANDBOX (cutbox-rows.mjs): the forced cells as the released guide's own fill.sh prints them over the translation 5881e78e0e5f8393… (all of the seat's roots in one cut). By AI agents, Wed Nov 11 2026. No macro, syntax, notation, axiom, sorry.
-/
import Derived.Test.YtfbkakchaabgeabDoorChecked
import GoSem.Claim
import GoSem.ClaimJoined
import GoSem.ClaimMapViews
import Derived.JoinedTies
import Derived.KernelRfl
namespace Go.Proofs.YtfbkakchaabgeabDoor
/- THE CELL 'sum', in the pinned program and in every row, IS THE sha256 OF THE DUMP (.gsa) THAT YtfbkakchaabgeabDoorProg.lean LOADS. Nothing in Lean hashes anything: it is a label: what it is worth is what the hold of that sum in a sandbox is worth. -/
noncomputable def Tryd.pinned : Pinned := { name := "ytfbkakchaabgeabdoor", sum := "5881e78e0e5f83932eca7bb386a99a47ba83e54c04e8b0a20e1f6f6f6fd8ff99", checked := Tryd.checked }
namespace Rows
def none {H : Type} : Left H := { results := [], args := [] }

/- WHAT THE LISTED PACKAGE-LEVEL VARIABLES READ AS WHEN THE CALL BEGINS. Each datum BY PROGRAM (the guide's laid-datum.mjs) off the statement by which the dump's own 'gosem.cut.vars' lays the variable. In a bare row this is a premise. The card (YtfbkakchaabgeabDoorCards.lean) ties it to the program's text. -/
def laid_longstop_decimal_powers {H : Type} : DataW H := .agg [.lit (.int .i64 1), .lit (.int .i64 10), .lit (.int .i64 100), .lit (.int .i64 1000), .lit (.int .i64 10000), .lit (.int .i64 100000), .lit (.int .i64 1000000), .lit (.int .i64 10000000), .lit (.int .i64 100000000), .lit (.int .i64 1000000000), .lit (.int .i64 10000000000), .lit (.int .i64 100000000000), .lit (.int .i64 1000000000000)]

/-- 'longstoplaw02.DecimalOrder': WHATEVER THE INPUT: true; the input reads as it did. -/
def decimalOrderSpec : ChangeSpec := { name := "decimalOrder", fn := fun _ => fun
  | [d1, d2, d3, d4] => { results := [.lit (.bool true)], args := [d1, d2, d3, d4] }
  | _ => none }
def decimalOrderRow : OpenClaim := { program := "ytfbkakchaabgeabdoor", sum := "5881e78e0e5f83932eca7bb386a99a47ba83e54c04e8b0a20e1f6f6f6fd8ff99", func := "longstop/longstoplaw02.DecimalOrder", spec := "decimalOrder", inPlace := ["math/bits.Add64", "math/bits.Sub64"], named := ["longstop/decimal.powers", "math/bits.divideError", "math/bits.overflowError"], apart := false, laid := [("longstop/decimal.powers", laid_longstop_decimal_powers)] }
def DecimalOrderSaid : Prop := decimalOrderRow.holds Tryd.pinned (OpenSpec.ofChange decimalOrderSpec)

/-- ITS FALSE NEIGHBOUR: 'it returns false'. Refute it at one input. -/
def decimalOrderWrong : ChangeSpec := { name := "decimalOrder", fn := fun _ => fun
  | [d1, d2, d3, d4] => { results := [.lit (.bool false)], args := [d1, d2, d3, d4] }
  | _ => none }
def DecimalOrderWrongFalsely : Prop := decimalOrderRow.holds Tryd.pinned (OpenSpec.ofChange decimalOrderWrong)

/-- 'longstoplaw02.DecimalNear': WHATEVER THE INPUT: true; the input reads as it did. -/
def decimalNearSpec : ChangeSpec := { name := "decimalNear", fn := fun _ => fun
  | [d1, d2] => { results := [.lit (.bool true)], args := [d1, d2] }
  | _ => none }
def decimalNearRow : OpenClaim := { program := "ytfbkakchaabgeabdoor", sum := "5881e78e0e5f83932eca7bb386a99a47ba83e54c04e8b0a20e1f6f6f6fd8ff99", func := "longstop/longstoplaw02.DecimalNear", spec := "decimalNear", inPlace := ["math/bits.Add64", "math/bits.Sub64"], named := ["longstop/decimal.powers", "math/bits.divideError", "math/bits.overflowError"], apart := false, laid := [("longstop/decimal.powers", laid_longstop_decimal_powers)] }
def DecimalNearSaid : Prop := decimalNearRow.holds Tryd.pinned (OpenSpec.ofChange decimalNearSpec)

/-- ITS FALSE NEIGHBOUR: 'it returns false'. Refute it at one input. -/
def decimalNearWrong : ChangeSpec := { name := "decimalNear", fn := fun _ => fun
  | [d1, d2] => { results := [.lit (.bool false)], args := [d1, d2] }
  | _ => none }
def DecimalNearWrongFalsely : Prop := decimalNearRow.holds Tryd.pinned (OpenSpec.ofChange decimalNearWrong)

/-- 'longstoplaw02.DecimalSigns': WHATEVER THE INPUT: true; the input reads as it did. -/
def decimalSignsSpec : ChangeSpec := { name := "decimalSigns", fn := fun _ => fun
  | [d1, d2] => { results := [.lit (.bool true)], args := [d1, d2] }
  | _ => none }
def decimalSignsRow : OpenClaim := { program := "ytfbkakchaabgeabdoor", sum := "5881e78e0e5f83932eca7bb386a99a47ba83e54c04e8b0a20e1f6f6f6fd8ff99", func := "longstop/longstoplaw02.DecimalSigns", spec := "decimalSigns", inPlace := ["math/bits.Add64", "math/bits.Sub64"], named := ["longstop/decimal.powers", "math/bits.divideError", "math/bits.overflowError"], apart := false, laid := [("longstop/decimal.powers", laid_longstop_decimal_powers)] }
def DecimalSignsSaid : Prop := decimalSignsRow.holds Tryd.pinned (OpenSpec.ofChange decimalSignsSpec)

/-- ITS FALSE NEIGHBOUR: 'it returns false'. Refute it at one input. -/
def decimalSignsWrong : ChangeSpec := { name := "decimalSigns", fn := fun _ => fun
  | [d1, d2] => { results := [.lit (.bool false)], args := [d1, d2] }
  | _ => none }
def DecimalSignsWrongFalsely : Prop := decimalSignsRow.holds Tryd.pinned (OpenSpec.ofChange decimalSignsWrong)

/- THE SECOND FORM. 'bulk': how many values and letters a reading holds, each counted each time it is reached (what is shared counts as often as it is met; a slice's spare places count too). A statement '..UptoSaid' is the law's where the arguments, and the package variables that the reading takes, are together of bulk at most 1048576: NARROWER than '..Said'. Prove '..Said' where nothing that the law and all that it calls make is longer than what came in: it says more and counts as full. Else prove '..UptoSaid'. A law counts once. -/
mutual
def uptoBulk {H : Type} : DataW H → Nat
  | .lit (.string bytes) => bytes.length + 1
  | .lit _ => 1
  | .nil => 1
  | .ptr d => uptoBulk d + 1
  | .slice elems spare => uptoBulkAll elems + uptoBulkAll spare + 1
  | .agg parts => uptoBulkAll parts + 1
  | .iface _ d => uptoBulk d + 1
  | .map entries => uptoBulkEntries entries + 1
  | .held _ => 1
def uptoBulkAll {H : Type} : List (DataW H) → Nat
  | [] => 0
  | d :: r => uptoBulk d + uptoBulkAll r
def uptoBulkEntries {H : Type} : List (Lit × DataW H) → Nat
  | [] => 0
  | x :: r => uptoBulkEntry x + uptoBulkEntries r
def uptoBulkEntry {H : Type} : Lit × DataW H → Nat
  | (.string bytes, d) => bytes.length + uptoBulk d + 1
  | (_, d) => uptoBulk d + 1
 end
def uptoSmall : (H : Type) → List (DataW H) → Bool := fun _ ds => decide (uptoBulkAll ds ≤ 1048576)
def OpenSpec.upto (s : _root_.Go.ChangeSpec) : _root_.Go.OpenSpec := { _root_.Go.OpenSpec.ofChange s with cond := some uptoSmall }

/-- 'longstoplaw02.DecimalOrder', WHERE WHAT IT READS IS OF BULK AT MOST 1048576: true; the input reads as it did. -/
def decimalOrderUptoRow : OpenClaim := { program := "ytfbkakchaabgeabdoor", sum := "5881e78e0e5f83932eca7bb386a99a47ba83e54c04e8b0a20e1f6f6f6fd8ff99", func := "longstop/longstoplaw02.DecimalOrder", spec := "decimalOrder", inPlace := ["math/bits.Add64", "math/bits.Sub64"], named := ["longstop/decimal.powers", "math/bits.divideError", "math/bits.overflowError"], apart := false, laid := [("longstop/decimal.powers", laid_longstop_decimal_powers)], narrowed := true }
def DecimalOrderUptoSaid : Prop := decimalOrderUptoRow.holds Tryd.pinned (OpenSpec.upto decimalOrderSpec)

/-- 'longstoplaw02.DecimalNear', WHERE WHAT IT READS IS OF BULK AT MOST 1048576: true; the input reads as it did. -/
def decimalNearUptoRow : OpenClaim := { program := "ytfbkakchaabgeabdoor", sum := "5881e78e0e5f83932eca7bb386a99a47ba83e54c04e8b0a20e1f6f6f6fd8ff99", func := "longstop/longstoplaw02.DecimalNear", spec := "decimalNear", inPlace := ["math/bits.Add64", "math/bits.Sub64"], named := ["longstop/decimal.powers", "math/bits.divideError", "math/bits.overflowError"], apart := false, laid := [("longstop/decimal.powers", laid_longstop_decimal_powers)], narrowed := true }
def DecimalNearUptoSaid : Prop := decimalNearUptoRow.holds Tryd.pinned (OpenSpec.upto decimalNearSpec)

/-- 'longstoplaw02.DecimalSigns', WHERE WHAT IT READS IS OF BULK AT MOST 1048576: true; the input reads as it did. -/
def decimalSignsUptoRow : OpenClaim := { program := "ytfbkakchaabgeabdoor", sum := "5881e78e0e5f83932eca7bb386a99a47ba83e54c04e8b0a20e1f6f6f6fd8ff99", func := "longstop/longstoplaw02.DecimalSigns", spec := "decimalSigns", inPlace := ["math/bits.Add64", "math/bits.Sub64"], named := ["longstop/decimal.powers", "math/bits.divideError", "math/bits.overflowError"], apart := false, laid := [("longstop/decimal.powers", laid_longstop_decimal_powers)], narrowed := true }
def DecimalSignsUptoSaid : Prop := decimalSignsUptoRow.holds Tryd.pinned (OpenSpec.upto decimalSignsSpec)

end Rows
end Go.Proofs.YtfbkakchaabgeabDoor
