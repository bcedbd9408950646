/-
  NARROWER THAN 'FOR EVERY INPUT', by the rows' own cells (each row's printed sentence says how): CodecWrites: laid · CodecReads: laid · CodecRecords: laid · CodecNil: laid · CodecBack: laid · CodecOne: laid.
  DERIVED. THE GIVEN ROWS OF THIS SEAT. 6 by the template 'for every input the law returns true; each argument reads behind the call as it read before'; 0 by the template 'total and deterministic' (their statements: YtdjilmcpkeckoaaDoorTotals.lean).
  GIVEN WITH THE SEED: the statements are not yours to turn. If you find one false, say at which input.
  Laid BY PROGRAM, IN A SANDBOX (cutbox-rows.mjs): the forced cells as the released guide's own fill.sh prints them over the translation 8379824b688ac019… (all of the seat's roots in one cut). By AI agents, Wed Nov 11 2026. No macro, syntax, notation, axiom, sorry.
-/
import Derived.Test.YtdjilmcpkeckoaaDoorChecked
import GoSem.Claim
import GoSem.ClaimJoined
import GoSem.ClaimMapViews
import Derived.JoinedTies
import Derived.KernelRfl
namespace Go.Proofs.YtdjilmcpkeckoaaDoor
/- THE CELL 'sum', in the pinned program and in every row, IS THE sha256 OF THE DUMP (.gsa) THAT YtdjilmcpkeckoaaDoorProg.lean LOADS. Nothing in Lean hashes anything: it is a label: what it is worth is what the hold of that sum in a sandbox is worth. -/
noncomputable def Tryd.pinned : Pinned := { name := "ytdjilmcpkeckoaadoor", sum := "8379824b688ac019ddc36fc9407ef2c1ace7344ef198449edd3b7ec3f6a45889", checked := Tryd.checked }
namespace Rows
def none {H : Type} : Left H := { results := [], args := [] }

/- WHAT THE LISTED PACKAGE-LEVEL VARIABLES READ AS WHEN THE CALL BEGINS. Each datum BY PROGRAM (the guide's laid-datum.mjs) off the statement by which the dump's own 'gosem.cut.vars' lays the variable. In a bare row this is a premise. The card (YtdjilmcpkeckoaaDoorCards.lean) ties it to the program's text. -/
def laid_longstop_codec_nibbleSums {H : Type} : DataW H := .agg [.lit (.int .u64 0), .lit (.int .u64 4823603603198064275), .lit (.int .u64 9647207206396128550), .lit (.int .u64 14344283933443513269), .lit (.int .u64 5274672035359026399), .lit (.int .u64 847670339082705484), .lit (.int .u64 14759040976900489721), .lit (.int .u64 10241823793177474922), .lit (.int .u64 10549344070718052798), .lit (.int .u64 15030250704074698541), .lit (.int .u64 1695340678165410968), .lit (.int .u64 6158653484774949387), .lit (.int .u64 15804726273676621153), .lit (.int .u64 11071337880091427826), .lit (.int .u64 6824194888265062471), .lit (.int .u64 2036903512645398228)]

/-- 'longstoplaw01.CodecWrites': WHATEVER THE INPUT: true; the input reads as it did. -/
def codecWritesSpec : ChangeSpec := { name := "codecWrites", fn := fun _ => fun
  | [d1, d2, d3] => { results := [.lit (.bool true)], args := [d1, d2, d3] }
  | _ => none }
def codecWritesRow : OpenClaim := { program := "ytdjilmcpkeckoaadoor", sum := "8379824b688ac019ddc36fc9407ef2c1ace7344ef198449edd3b7ec3f6a45889", func := "longstop/longstoplaw01.CodecWrites", spec := "codecWrites", named := ["longstop/codec.nibbleSums"], apart := false, laid := [("longstop/codec.nibbleSums", laid_longstop_codec_nibbleSums)] }
def CodecWritesSaid : Prop := codecWritesRow.holds Tryd.pinned (OpenSpec.ofChange codecWritesSpec)

/-- ITS FALSE NEIGHBOUR: 'it returns false'. Refute it at one input. -/
def codecWritesWrong : ChangeSpec := { name := "codecWrites", fn := fun _ => fun
  | [d1, d2, d3] => { results := [.lit (.bool false)], args := [d1, d2, d3] }
  | _ => none }
def CodecWritesWrongFalsely : Prop := codecWritesRow.holds Tryd.pinned (OpenSpec.ofChange codecWritesWrong)

/-- 'longstoplaw01.CodecReads': WHATEVER THE INPUT: true; the input reads as it did. -/
def codecReadsSpec : ChangeSpec := { name := "codecReads", fn := fun _ => fun
  | [d1, d2] => { results := [.lit (.bool true)], args := [d1, d2] }
  | _ => none }
def codecReadsRow : OpenClaim := { program := "ytdjilmcpkeckoaadoor", sum := "8379824b688ac019ddc36fc9407ef2c1ace7344ef198449edd3b7ec3f6a45889", func := "longstop/longstoplaw01.CodecReads", spec := "codecReads", named := ["longstop/codec.nibbleSums"], apart := false, laid := [("longstop/codec.nibbleSums", laid_longstop_codec_nibbleSums)] }
def CodecReadsSaid : Prop := codecReadsRow.holds Tryd.pinned (OpenSpec.ofChange codecReadsSpec)

/-- ITS FALSE NEIGHBOUR: 'it returns false'. Refute it at one input. -/
def codecReadsWrong : ChangeSpec := { name := "codecReads", fn := fun _ => fun
  | [d1, d2] => { results := [.lit (.bool false)], args := [d1, d2] }
  | _ => none }
def CodecReadsWrongFalsely : Prop := codecReadsRow.holds Tryd.pinned (OpenSpec.ofChange codecReadsWrong)

/-- 'longstoplaw01.CodecRecords': WHATEVER THE INPUT: true; the input reads as it did. -/
def codecRecordsSpec : ChangeSpec := { name := "codecRecords", fn := fun _ => fun
  | [d] => { results := [.lit (.bool true)], args := [d] }
  | _ => none }
def codecRecordsRow : OpenClaim := { program := "ytdjilmcpkeckoaadoor", sum := "8379824b688ac019ddc36fc9407ef2c1ace7344ef198449edd3b7ec3f6a45889", func := "longstop/longstoplaw01.CodecRecords", spec := "codecRecords", named := ["longstop/codec.nibbleSums"], apart := false, laid := [("longstop/codec.nibbleSums", laid_longstop_codec_nibbleSums)] }
def CodecRecordsSaid : Prop := codecRecordsRow.holds Tryd.pinned (OpenSpec.ofChange codecRecordsSpec)

/-- ITS FALSE NEIGHBOUR: 'it returns false'. Refute it at one input. -/
def codecRecordsWrong : ChangeSpec := { name := "codecRecords", fn := fun _ => fun
  | [d] => { results := [.lit (.bool false)], args := [d] }
  | _ => none }
def CodecRecordsWrongFalsely : Prop := codecRecordsRow.holds Tryd.pinned (OpenSpec.ofChange codecRecordsWrong)

/-- 'longstoplaw01.CodecNil': WHATEVER THE INPUT: true; the input reads as it did. -/
def codecNilSpec : ChangeSpec := { name := "codecNil", fn := fun _ => fun
  | [] => { results := [.lit (.bool true)], args := [] }
  | _ => none }
def codecNilRow : OpenClaim := { program := "ytdjilmcpkeckoaadoor", sum := "8379824b688ac019ddc36fc9407ef2c1ace7344ef198449edd3b7ec3f6a45889", func := "longstop/longstoplaw01.CodecNil", spec := "codecNil", named := ["longstop/codec.nibbleSums"], apart := false, laid := [("longstop/codec.nibbleSums", laid_longstop_codec_nibbleSums)] }
def CodecNilSaid : Prop := codecNilRow.holds Tryd.pinned (OpenSpec.ofChange codecNilSpec)

/-- ITS FALSE NEIGHBOUR: 'it returns false'. Refute it at one input. -/
def codecNilWrong : ChangeSpec := { name := "codecNil", fn := fun _ => fun
  | [] => { results := [.lit (.bool false)], args := [] }
  | _ => none }
def CodecNilWrongFalsely : Prop := codecNilRow.holds Tryd.pinned (OpenSpec.ofChange codecNilWrong)

/-- 'longstoplaw01.CodecBack': WHATEVER THE INPUT: true; the input reads as it did. -/
def codecBackSpec : ChangeSpec := { name := "codecBack", fn := fun _ => fun
  | [d1, d2] => { results := [.lit (.bool true)], args := [d1, d2] }
  | _ => none }
def codecBackRow : OpenClaim := { program := "ytdjilmcpkeckoaadoor", sum := "8379824b688ac019ddc36fc9407ef2c1ace7344ef198449edd3b7ec3f6a45889", func := "longstop/longstoplaw01.CodecBack", spec := "codecBack", named := ["longstop/codec.nibbleSums"], apart := false, laid := [("longstop/codec.nibbleSums", laid_longstop_codec_nibbleSums)] }
def CodecBackSaid : Prop := codecBackRow.holds Tryd.pinned (OpenSpec.ofChange codecBackSpec)

/-- ITS FALSE NEIGHBOUR: 'it returns false'. Refute it at one input. -/
def codecBackWrong : ChangeSpec := { name := "codecBack", fn := fun _ => fun
  | [d1, d2] => { results := [.lit (.bool false)], args := [d1, d2] }
  | _ => none }
def CodecBackWrongFalsely : Prop := codecBackRow.holds Tryd.pinned (OpenSpec.ofChange codecBackWrong)

/-- 'longstoplaw01.CodecOne': WHATEVER THE INPUT: true; the input reads as it did. -/
def codecOneSpec : ChangeSpec := { name := "codecOne", fn := fun _ => fun
  | [d1, d2] => { results := [.lit (.bool true)], args := [d1, d2] }
  | _ => none }
def codecOneRow : OpenClaim := { program := "ytdjilmcpkeckoaadoor", sum := "8379824b688ac019ddc36fc9407ef2c1ace7344ef198449edd3b7ec3f6a45889", func := "longstop/longstoplaw01.CodecOne", spec := "codecOne", named := ["longstop/codec.nibbleSums"], apart := false, laid := [("longstop/codec.nibbleSums", laid_longstop_codec_nibbleSums)] }
def CodecOneSaid : Prop := codecOneRow.holds Tryd.pinned (OpenSpec.ofChange codecOneSpec)

/-- ITS FALSE NEIGHBOUR: 'it returns false'. Refute it at one input. -/
def codecOneWrong : ChangeSpec := { name := "codecOne", fn := fun _ => fun
  | [d1, d2] => { results := [.lit (.bool false)], args := [d1, d2] }
  | _ => none }
def CodecOneWrongFalsely : Prop := codecOneRow.holds Tryd.pinned (OpenSpec.ofChange codecOneWrong)

/- THE SECOND FORM. 'bulk': how many values and letters a reading holds, each counted each time it is reached (what is shared counts as often as it is met; a slice's spare places count too). A statement '..UptoSaid' is the law's where the arguments, and the package variables that the reading takes, are together of bulk at most 1048576: NARROWER than '..Said'. Prove '..Said' where nothing that the law and all that it calls make is longer than what came in: it says more and counts as full. Else prove '..UptoSaid'. A law counts once. -/
mutual
def uptoBulk {H : Type} : DataW H → Nat
  | .lit (.string bytes) => bytes.length + 1
  | .lit _ => 1
  | .nil => 1
  | .ptr d => uptoBulk d + 1
  | .slice elems spare => uptoBulkAll elems + uptoBulkAll spare + 1
  | .agg parts => uptoBulkAll parts + 1
  | .iface _ d => uptoBulk d + 1
  | .map entries => uptoBulkEntries entries + 1
  | .held _ => 1
def uptoBulkAll {H : Type} : List (DataW H) → Nat
  | [] => 0
  | d :: r => uptoBulk d + uptoBulkAll r
def uptoBulkEntries {H : Type} : List (Lit × DataW H) → Nat
  | [] => 0
  | x :: r => uptoBulkEntry x + uptoBulkEntries r
def uptoBulkEntry {H : Type} : Lit × DataW H → Nat
  | (.string bytes, d) => bytes.length + uptoBulk d + 1
  | (_, d) => uptoBulk d + 1
 end
def uptoSmall : (H : Type) → List (DataW H) → Bool := fun _ ds => decide (uptoBulkAll ds ≤ 1048576)
def OpenSpec.upto (s : _root_.Go.ChangeSpec) : _root_.Go.OpenSpec := { _root_.Go.OpenSpec.ofChange s with cond := some uptoSmall }

/-- 'longstoplaw01.CodecWrites', WHERE WHAT IT READS IS OF BULK AT MOST 1048576: true; the input reads as it did. -/
def codecWritesUptoRow : OpenClaim := { program := "ytdjilmcpkeckoaadoor", sum := "8379824b688ac019ddc36fc9407ef2c1ace7344ef198449edd3b7ec3f6a45889", func := "longstop/longstoplaw01.CodecWrites", spec := "codecWrites", named := ["longstop/codec.nibbleSums"], apart := false, laid := [("longstop/codec.nibbleSums", laid_longstop_codec_nibbleSums)], narrowed := true }
def CodecWritesUptoSaid : Prop := codecWritesUptoRow.holds Tryd.pinned (OpenSpec.upto codecWritesSpec)

/-- 'longstoplaw01.CodecReads', WHERE WHAT IT READS IS OF BULK AT MOST 1048576: true; the input reads as it did. -/
def codecReadsUptoRow : OpenClaim := { program := "ytdjilmcpkeckoaadoor", sum := "8379824b688ac019ddc36fc9407ef2c1ace7344ef198449edd3b7ec3f6a45889", func := "longstop/longstoplaw01.CodecReads", spec := "codecReads", named := ["longstop/codec.nibbleSums"], apart := false, laid := [("longstop/codec.nibbleSums", laid_longstop_codec_nibbleSums)], narrowed := true }
def CodecReadsUptoSaid : Prop := codecReadsUptoRow.holds Tryd.pinned (OpenSpec.upto codecReadsSpec)

/-- 'longstoplaw01.CodecRecords', WHERE WHAT IT READS IS OF BULK AT MOST 1048576: true; the input reads as it did. -/
def codecRecordsUptoRow : OpenClaim := { program := "ytdjilmcpkeckoaadoor", sum := "8379824b688ac019ddc36fc9407ef2c1ace7344ef198449edd3b7ec3f6a45889", func := "longstop/longstoplaw01.CodecRecords", spec := "codecRecords", named := ["longstop/codec.nibbleSums"], apart := false, laid := [("longstop/codec.nibbleSums", laid_longstop_codec_nibbleSums)], narrowed := true }
def CodecRecordsUptoSaid : Prop := codecRecordsUptoRow.holds Tryd.pinned (OpenSpec.upto codecRecordsSpec)

/-- 'longstoplaw01.CodecNil', WHERE WHAT IT READS IS OF BULK AT MOST 1048576: true; the input reads as it did. -/
def codecNilUptoRow : OpenClaim := { program := "ytdjilmcpkeckoaadoor", sum := "8379824b688ac019ddc36fc9407ef2c1ace7344ef198449edd3b7ec3f6a45889", func := "longstop/longstoplaw01.CodecNil", spec := "codecNil", named := ["longstop/codec.nibbleSums"], apart := false, laid := [("longstop/codec.nibbleSums", laid_longstop_codec_nibbleSums)], narrowed := true }
def CodecNilUptoSaid : Prop := codecNilUptoRow.holds Tryd.pinned (OpenSpec.upto codecNilSpec)

/-- 'longstoplaw01.CodecBack', WHERE WHAT IT READS IS OF BULK AT MOST 1048576: true; the input reads as it did. -/
def codecBackUptoRow : OpenClaim := { program := "ytdjilmcpkeckoaadoor", sum := "8379824b688ac019ddc36fc9407ef2c1ace7344ef198449edd3b7ec3f6a45889", func := "longstop/longstoplaw01.CodecBack", spec := "codecBack", named := ["longstop/codec.nibbleSums"], apart := false, laid := [("longstop/codec.nibbleSums", laid_longstop_codec_nibbleSums)], narrowed := true }
def CodecBackUptoSaid : Prop := codecBackUptoRow.holds Tryd.pinned (OpenSpec.upto codecBackSpec)

/-- 'longstoplaw01.CodecOne', WHERE WHAT IT READS IS OF BULK AT MOST 1048576: true; the input reads as it did. -/
def codecOneUptoRow : OpenClaim := { program := "ytdjilmcpkeckoaadoor", sum := "8379824b688ac019ddc36fc9407ef2c1ace7344ef198449edd3b7ec3f6a45889", func := "longstop/longstoplaw01.CodecOne", spec := "codecOne", named := ["longstop/codec.nibbleSums"], apart := false, laid := [("longstop/codec.nibbleSums", laid_longstop_codec_nibbleSums)], narrowed := true }
def CodecOneUptoSaid : Prop := codecOneUptoRow.holds Tryd.pinned (OpenSpec.upto codecOneSpec)

end Rows
end Go.Proofs.YtdjilmcpkeckoaaDoor
