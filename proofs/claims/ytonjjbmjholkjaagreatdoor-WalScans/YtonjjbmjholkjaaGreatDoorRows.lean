/-
  NARROWER THAN 'FOR EVERY INPUT', by the rows' own cells (each row's printed sentence says how): WalScans: laid · WalNil: laid.
  DERIVED. THE GIVEN ROWS OF THIS SEAT. 2 by the template 'for every input the law returns true; each argument reads behind the call as it read before'; 0 by the template 'total and deterministic' (their statements: YtonjjbmjholkjaaGreatDoorTotals.lean).
  GIVEN WITH THE SEED: the statements are not yours to turn. If you find one false, say at which input.
  Laid BY PROGRAM, IN A SANDBOX (cutbox-rows.mjs): the forced cells as the released guide's own fill.sh prints them over the translation d3c3f75221ac3ca1… (all of the seat's roots in one cut). By AI agents, Wed Nov 11 2026. No macro, syntax, notation, axiom, sorry.
-/
import Derived.Test.YtonjjbmjholkjaaGreatDoorChecked
import GoSem.Claim
import GoSem.ClaimJoined
import GoSem.ClaimMapViews
import Derived.JoinedTies
import Derived.KernelRfl
namespace Go.Proofs.YtonjjbmjholkjaaGreatDoor
/- THE CELL 'sum', in the pinned program and in every row, IS THE sha256 OF THE DUMP (.gsa) THAT YtonjjbmjholkjaaGreatDoorProg.lean LOADS. Nothing in Lean hashes anything: it is a label: what it is worth is what the hold of that sum in a sandbox is worth. -/
noncomputable def Tryz.pinned : Pinned := { name := "ytonjjbmjholkjaagreatdoor", sum := "d3c3f75221ac3ca10fee3efb9ef0f4a79bca421fe5b4e7f020aafe84be09dd75", checked := Tryz.checked }
namespace Rows
def none {H : Type} : Left H := { results := [], args := [] }

/- WHAT THE LISTED PACKAGE-LEVEL VARIABLES READ AS WHEN THE CALL BEGINS. Each datum BY PROGRAM (the guide's laid-datum.mjs) off the statement by which the dump's own 'gosem.cut.vars' lays the variable. In a bare row this is a premise. The card (YtonjjbmjholkjaaGreatDoorCards.lean) ties it to the program's text. -/
def laid_longstop_codec_nibbleSums {H : Type} : DataW H := .agg [.lit (.int .u64 0), .lit (.int .u64 4823603603198064275), .lit (.int .u64 9647207206396128550), .lit (.int .u64 14344283933443513269), .lit (.int .u64 5274672035359026399), .lit (.int .u64 847670339082705484), .lit (.int .u64 14759040976900489721), .lit (.int .u64 10241823793177474922), .lit (.int .u64 10549344070718052798), .lit (.int .u64 15030250704074698541), .lit (.int .u64 1695340678165410968), .lit (.int .u64 6158653484774949387), .lit (.int .u64 15804726273676621153), .lit (.int .u64 11071337880091427826), .lit (.int .u64 6824194888265062471), .lit (.int .u64 2036903512645398228)]

/-- 'longstoplaw15.WalScans': WHATEVER THE INPUT: true; the input reads as it did. -/
def walScansSpec : ChangeSpec := { name := "walScans", fn := fun _ => fun
  | [d1, d2] => { results := [.lit (.bool true)], args := [d1, d2] }
  | _ => none }
def walScansRow : OpenClaim := { program := "ytonjjbmjholkjaagreatdoor", sum := "d3c3f75221ac3ca10fee3efb9ef0f4a79bca421fe5b4e7f020aafe84be09dd75", func := "longstop/longstoplaw15.WalScans", spec := "walScans", unfollowed := true, recurses := true, named := ["longstop/codec.nibbleSums"], apart := false, laid := [("longstop/codec.nibbleSums", laid_longstop_codec_nibbleSums)] }
def WalScansSaid : Prop := walScansRow.holds Tryz.pinned (OpenSpec.ofChange walScansSpec)

/-- ITS FALSE NEIGHBOUR: 'it returns false'. Refute it at one input. -/
def walScansWrong : ChangeSpec := { name := "walScans", fn := fun _ => fun
  | [d1, d2] => { results := [.lit (.bool false)], args := [d1, d2] }
  | _ => none }
def WalScansWrongFalsely : Prop := walScansRow.holds Tryz.pinned (OpenSpec.ofChange walScansWrong)

/-- 'longstoplaw15.WalNil': WHATEVER THE INPUT: true; the input reads as it did. -/
def walNilSpec : ChangeSpec := { name := "walNil", fn := fun _ => fun
  | [d] => { results := [.lit (.bool true)], args := [d] }
  | _ => none }
def walNilRow : OpenClaim := { program := "ytonjjbmjholkjaagreatdoor", sum := "d3c3f75221ac3ca10fee3efb9ef0f4a79bca421fe5b4e7f020aafe84be09dd75", func := "longstop/longstoplaw15.WalNil", spec := "walNil", unfollowed := true, recurses := true, named := ["longstop/codec.nibbleSums"], apart := false, laid := [("longstop/codec.nibbleSums", laid_longstop_codec_nibbleSums)] }
def WalNilSaid : Prop := walNilRow.holds Tryz.pinned (OpenSpec.ofChange walNilSpec)

/-- ITS FALSE NEIGHBOUR: 'it returns false'. Refute it at one input. -/
def walNilWrong : ChangeSpec := { name := "walNil", fn := fun _ => fun
  | [d] => { results := [.lit (.bool false)], args := [d] }
  | _ => none }
def WalNilWrongFalsely : Prop := walNilRow.holds Tryz.pinned (OpenSpec.ofChange walNilWrong)

/- THE SECOND FORM. 'bulk': how many values and letters a reading holds, each counted each time it is reached (what is shared counts as often as it is met; a slice's spare places count too). A statement '..UptoSaid' is the law's where the arguments, and the package variables that the reading takes, are together of bulk at most 1048576: NARROWER than '..Said'. Prove '..Said' where nothing that the law and all that it calls make is longer than what came in: it says more and counts as full. Else prove '..UptoSaid'. A law counts once. -/
mutual
def uptoBulk {H : Type} : DataW H → Nat
  | .lit (.string bytes) => bytes.length + 1
  | .lit _ => 1
  | .nil => 1
  | .ptr d => uptoBulk d + 1
  | .slice elems spare => uptoBulkAll elems + uptoBulkAll spare + 1
  | .agg parts => uptoBulkAll parts + 1
  | .iface _ d => uptoBulk d + 1
  | .map entries => uptoBulkEntries entries + 1
  | .held _ => 1
def uptoBulkAll {H : Type} : List (DataW H) → Nat
  | [] => 0
  | d :: r => uptoBulk d + uptoBulkAll r
def uptoBulkEntries {H : Type} : List (Lit × DataW H) → Nat
  | [] => 0
  | x :: r => uptoBulkEntry x + uptoBulkEntries r
def uptoBulkEntry {H : Type} : Lit × DataW H → Nat
  | (.string bytes, d) => bytes.length + uptoBulk d + 1
  | (_, d) => uptoBulk d + 1
 end
def uptoSmall : (H : Type) → List (DataW H) → Bool := fun _ ds => decide (uptoBulkAll ds ≤ 1048576)
def OpenSpec.upto (s : _root_.Go.ChangeSpec) : _root_.Go.OpenSpec := { _root_.Go.OpenSpec.ofChange s with cond := some uptoSmall }

/-- 'longstoplaw15.WalScans', WHERE WHAT IT READS IS OF BULK AT MOST 1048576: true; the input reads as it did. -/
def walScansUptoRow : OpenClaim := { program := "ytonjjbmjholkjaagreatdoor", sum := "d3c3f75221ac3ca10fee3efb9ef0f4a79bca421fe5b4e7f020aafe84be09dd75", func := "longstop/longstoplaw15.WalScans", spec := "walScans", unfollowed := true, recurses := true, named := ["longstop/codec.nibbleSums"], apart := false, laid := [("longstop/codec.nibbleSums", laid_longstop_codec_nibbleSums)], narrowed := true }
def WalScansUptoSaid : Prop := walScansUptoRow.holds Tryz.pinned (OpenSpec.upto walScansSpec)

/-- 'longstoplaw15.WalNil', WHERE WHAT IT READS IS OF BULK AT MOST 1048576: true; the input reads as it did. -/
def walNilUptoRow : OpenClaim := { program := "ytonjjbmjholkjaagreatdoor", sum := "d3c3f75221ac3ca10fee3efb9ef0f4a79bca421fe5b4e7f020aafe84be09dd75", func := "longstop/longstoplaw15.WalNil", spec := "walNil", unfollowed := true, recurses := true, named := ["longstop/codec.nibbleSums"], apart := false, laid := [("longstop/codec.nibbleSums", laid_longstop_codec_nibbleSums)], narrowed := true }
def WalNilUptoSaid : Prop := walNilUptoRow.holds Tryz.pinned (OpenSpec.upto walNilSpec)

end Rows
end Go.Proofs.YtonjjbmjholkjaaGreatDoor
