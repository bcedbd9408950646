/-
  NARROWER THAN 'FOR EVERY INPUT', by the rows' own cells (each row's printed sentence says how): CodecFirst: laid · CodecRot: laid · CodecLinear: laid.
  DERIVED. THE GIVEN ROWS OF THIS SEAT. 3 by the template 'for every input the law returns true; each argument reads behind the call as it read before'; 0 by the template 'total and deterministic' (their statements: YtdjilmcpkeckoabDoorTotals.lean).
  GIVEN WITH THE SEED: the statements are not yours to turn. If you find one false, say at which input.
  Laid BY PROGRAM, IN A SANDBOX (cutbox-rows.mjs): the forced cells as the released guide's own fill.sh prints them over the translation 0be1061643307014… (all of the seat's roots in one cut). By AI agents, Wed Nov 11 2026. No macro, syntax, notation, axiom, sorry.
-/
import Derived.Test.YtdjilmcpkeckoabDoorChecked
import GoSem.Claim
import GoSem.ClaimJoined
import GoSem.ClaimMapViews
import Derived.JoinedTies
import Derived.KernelRfl
namespace Go.Proofs.YtdjilmcpkeckoabDoor
/- THE CELL 'sum', in the pinned program and in every row, IS THE sha256 OF THE DUMP (.gsa) THAT YtdjilmcpkeckoabDoorProg.lean LOADS. Nothing in Lean hashes anything: it is a label: what it is worth is what the hold of that sum in a sandbox is worth. -/
noncomputable def Tryd.pinned : Pinned := { name := "ytdjilmcpkeckoabdoor", sum := "0be1061643307014fe4db87c169b1781c627fc1d8697ff2eec10da1eee4ff181", checked := Tryd.checked }
namespace Rows
def none {H : Type} : Left H := { results := [], args := [] }

/- WHAT THE LISTED PACKAGE-LEVEL VARIABLES READ AS WHEN THE CALL BEGINS. Each datum BY PROGRAM (the guide's laid-datum.mjs) off the statement by which the dump's own 'gosem.cut.vars' lays the variable. In a bare row this is a premise. The card (YtdjilmcpkeckoabDoorCards.lean) ties it to the program's text. -/
def laid_longstop_codec_nibbleSums {H : Type} : DataW H := .agg [.lit (.int .u64 0), .lit (.int .u64 4823603603198064275), .lit (.int .u64 9647207206396128550), .lit (.int .u64 14344283933443513269), .lit (.int .u64 5274672035359026399), .lit (.int .u64 847670339082705484), .lit (.int .u64 14759040976900489721), .lit (.int .u64 10241823793177474922), .lit (.int .u64 10549344070718052798), .lit (.int .u64 15030250704074698541), .lit (.int .u64 1695340678165410968), .lit (.int .u64 6158653484774949387), .lit (.int .u64 15804726273676621153), .lit (.int .u64 11071337880091427826), .lit (.int .u64 6824194888265062471), .lit (.int .u64 2036903512645398228)]

/-- 'longstoplaw01.CodecFirst': WHATEVER THE INPUT: true; the input reads as it did. -/
def codecFirstSpec : ChangeSpec := { name := "codecFirst", fn := fun _ => fun
  | [d1, d2, d3] => { results := [.lit (.bool true)], args := [d1, d2, d3] }
  | _ => none }
def codecFirstRow : OpenClaim := { program := "ytdjilmcpkeckoabdoor", sum := "0be1061643307014fe4db87c169b1781c627fc1d8697ff2eec10da1eee4ff181", func := "longstop/longstoplaw01.CodecFirst", spec := "codecFirst", named := ["longstop/codec.nibbleSums"], apart := false, laid := [("longstop/codec.nibbleSums", laid_longstop_codec_nibbleSums)] }
def CodecFirstSaid : Prop := codecFirstRow.holds Tryd.pinned (OpenSpec.ofChange codecFirstSpec)

/-- ITS FALSE NEIGHBOUR: 'it returns false'. Refute it at one input. -/
def codecFirstWrong : ChangeSpec := { name := "codecFirst", fn := fun _ => fun
  | [d1, d2, d3] => { results := [.lit (.bool false)], args := [d1, d2, d3] }
  | _ => none }
def CodecFirstWrongFalsely : Prop := codecFirstRow.holds Tryd.pinned (OpenSpec.ofChange codecFirstWrong)

/-- 'longstoplaw01.CodecRot': WHATEVER THE INPUT: true; the input reads as it did. -/
def codecRotSpec : ChangeSpec := { name := "codecRot", fn := fun _ => fun
  | [d1, d2, d3] => { results := [.lit (.bool true)], args := [d1, d2, d3] }
  | _ => none }
def codecRotRow : OpenClaim := { program := "ytdjilmcpkeckoabdoor", sum := "0be1061643307014fe4db87c169b1781c627fc1d8697ff2eec10da1eee4ff181", func := "longstop/longstoplaw01.CodecRot", spec := "codecRot", named := ["longstop/codec.nibbleSums"], apart := false, laid := [("longstop/codec.nibbleSums", laid_longstop_codec_nibbleSums)] }
def CodecRotSaid : Prop := codecRotRow.holds Tryd.pinned (OpenSpec.ofChange codecRotSpec)

/-- ITS FALSE NEIGHBOUR: 'it returns false'. Refute it at one input. -/
def codecRotWrong : ChangeSpec := { name := "codecRot", fn := fun _ => fun
  | [d1, d2, d3] => { results := [.lit (.bool false)], args := [d1, d2, d3] }
  | _ => none }
def CodecRotWrongFalsely : Prop := codecRotRow.holds Tryd.pinned (OpenSpec.ofChange codecRotWrong)

/-- 'longstoplaw01.CodecLinear': WHATEVER THE INPUT: true; the input reads as it did. -/
def codecLinearSpec : ChangeSpec := { name := "codecLinear", fn := fun _ => fun
  | [d1, d2] => { results := [.lit (.bool true)], args := [d1, d2] }
  | _ => none }
def codecLinearRow : OpenClaim := { program := "ytdjilmcpkeckoabdoor", sum := "0be1061643307014fe4db87c169b1781c627fc1d8697ff2eec10da1eee4ff181", func := "longstop/longstoplaw01.CodecLinear", spec := "codecLinear", named := ["longstop/codec.nibbleSums"], apart := false, laid := [("longstop/codec.nibbleSums", laid_longstop_codec_nibbleSums)] }
def CodecLinearSaid : Prop := codecLinearRow.holds Tryd.pinned (OpenSpec.ofChange codecLinearSpec)

/-- ITS FALSE NEIGHBOUR: 'it returns false'. Refute it at one input. -/
def codecLinearWrong : ChangeSpec := { name := "codecLinear", fn := fun _ => fun
  | [d1, d2] => { results := [.lit (.bool false)], args := [d1, d2] }
  | _ => none }
def CodecLinearWrongFalsely : Prop := codecLinearRow.holds Tryd.pinned (OpenSpec.ofChange codecLinearWrong)

/- THE SECOND FORM. 'bulk': how many values and letters a reading holds, each counted each time it is reached (what is shared counts as often as it is met; a slice's spare places count too). A statement '..UptoSaid' is the law's where the arguments, and the package variables that the reading takes, are together of bulk at most 1048576: NARROWER than '..Said'. Prove '..Said' where nothing that the law and all that it calls make is longer than what came in: it says more and counts as full. Else prove '..UptoSaid'. A law counts once. -/
mutual
def uptoBulk {H : Type} : DataW H → Nat
  | .lit (.string bytes) => bytes.length + 1
  | .lit _ => 1
  | .nil => 1
  | .ptr d => uptoBulk d + 1
  | .slice elems spare => uptoBulkAll elems + uptoBulkAll spare + 1
  | .agg parts => uptoBulkAll parts + 1
  | .iface _ d => uptoBulk d + 1
  | .map entries => uptoBulkEntries entries + 1
  | .held _ => 1
def uptoBulkAll {H : Type} : List (DataW H) → Nat
  | [] => 0
  | d :: r => uptoBulk d + uptoBulkAll r
def uptoBulkEntries {H : Type} : List (Lit × DataW H) → Nat
  | [] => 0
  | x :: r => uptoBulkEntry x + uptoBulkEntries r
def uptoBulkEntry {H : Type} : Lit × DataW H → Nat
  | (.string bytes, d) => bytes.length + uptoBulk d + 1
  | (_, d) => uptoBulk d + 1
 end
def uptoSmall : (H : Type) → List (DataW H) → Bool := fun _ ds => decide (uptoBulkAll ds ≤ 1048576)
def OpenSpec.upto (s : _root_.Go.ChangeSpec) : _root_.Go.OpenSpec := { _root_.Go.OpenSpec.ofChange s with cond := some uptoSmall }

/-- 'longstoplaw01.CodecFirst', WHERE WHAT IT READS IS OF BULK AT MOST 1048576: true; the input reads as it did. -/
def codecFirstUptoRow : OpenClaim := { program := "ytdjilmcpkeckoabdoor", sum := "0be1061643307014fe4db87c169b1781c627fc1d8697ff2eec10da1eee4ff181", func := "longstop/longstoplaw01.CodecFirst", spec := "codecFirst", named := ["longstop/codec.nibbleSums"], apart := false, laid := [("longstop/codec.nibbleSums", laid_longstop_codec_nibbleSums)], narrowed := true }
def CodecFirstUptoSaid : Prop := codecFirstUptoRow.holds Tryd.pinned (OpenSpec.upto codecFirstSpec)

/-- 'longstoplaw01.CodecRot', WHERE WHAT IT READS IS OF BULK AT MOST 1048576: true; the input reads as it did. -/
def codecRotUptoRow : OpenClaim := { program := "ytdjilmcpkeckoabdoor", sum := "0be1061643307014fe4db87c169b1781c627fc1d8697ff2eec10da1eee4ff181", func := "longstop/longstoplaw01.CodecRot", spec := "codecRot", named := ["longstop/codec.nibbleSums"], apart := false, laid := [("longstop/codec.nibbleSums", laid_longstop_codec_nibbleSums)], narrowed := true }
def CodecRotUptoSaid : Prop := codecRotUptoRow.holds Tryd.pinned (OpenSpec.upto codecRotSpec)

/-- 'longstoplaw01.CodecLinear', WHERE WHAT IT READS IS OF BULK AT MOST 1048576: true; the input reads as it did. -/
def codecLinearUptoRow : OpenClaim := { program := "ytdjilmcpkeckoabdoor", sum := "0be1061643307014fe4db87c169b1781c627fc1d8697ff2eec10da1eee4ff181", func := "longstop/longstoplaw01.CodecLinear", spec := "codecLinear", named := ["longstop/codec.nibbleSums"], apart := false, laid := [("longstop/codec.nibbleSums", laid_longstop_codec_nibbleSums)], narrowed := true }
def CodecLinearUptoSaid : Prop := codecLinearUptoRow.holds Tryd.pinned (OpenSpec.upto codecLinearSpec)

end Rows
end Go.Proofs.YtdjilmcpkeckoabDoor
