/-
  DERIVED. GIVEN WITH THE SEED: THE CARDS: each row of YtdjilmcpkeckoaaDoorRows.lean that lists a variable, with what it lists TIED to the program's text (the seventh form; the later family's looks); each row that meets fmt, with fmt's text TOLD by the authors' own Lean function (tested against real Go, not proved from fmt's source: count such statements apart). THE CARD IS WHAT COUNTS. Prove the row's statement (the work); the ties are given (YtdjilmcpkeckoaaDoorTie.lean); close each card by the builder's one call (the guide's Derived/Test/ToyasCard.lean, 'card_holds'). Laid BY PROGRAM, IN A SANDBOX (cutbox-door.mjs). By AI agents, Wed Nov 11 2026. No macro, syntax, notation, axiom, sorry.
-/
import Derived.Test.YtdjilmcpkeckoaaDoorRows
import GoSem.ClaimSeven
namespace Go.Proofs.YtdjilmcpkeckoaaDoor
namespace Rows

/-- THE TIED CARD OF 'longstoplaw01.CodecWrites'. -/
def codecWritesCard : Claim7 := { stood := { row := codecWritesRow, standIns := [], harness := (true, "33980d5adc1c61e806e3d7bb36dc6918fd4594da16c577ee6136f5da2470f74f"), looks := false }, kinds := [], alts := [], laidByText := true, laidKinds := [.data], laidTests := true, laidLooks := .later }
def CodecWritesCardSaid : Prop := Claim7.holds Tryd.pinned (.plain (OpenSpec.ofChange codecWritesSpec)) codecWritesCard

/-- THE TIED CARD OF 'longstoplaw01.CodecReads'. -/
def codecReadsCard : Claim7 := { stood := { row := codecReadsRow, standIns := [], harness := (true, "33980d5adc1c61e806e3d7bb36dc6918fd4594da16c577ee6136f5da2470f74f"), looks := false }, kinds := [], alts := [], laidByText := true, laidKinds := [.data], laidTests := true, laidLooks := .later }
def CodecReadsCardSaid : Prop := Claim7.holds Tryd.pinned (.plain (OpenSpec.ofChange codecReadsSpec)) codecReadsCard

/-- THE TIED CARD OF 'longstoplaw01.CodecRecords'. -/
def codecRecordsCard : Claim7 := { stood := { row := codecRecordsRow, standIns := [], harness := (true, "33980d5adc1c61e806e3d7bb36dc6918fd4594da16c577ee6136f5da2470f74f"), looks := false }, kinds := [], alts := [], laidByText := true, laidKinds := [.data], laidTests := true, laidLooks := .later }
def CodecRecordsCardSaid : Prop := Claim7.holds Tryd.pinned (.plain (OpenSpec.ofChange codecRecordsSpec)) codecRecordsCard

/-- THE TIED CARD OF 'longstoplaw01.CodecNil'. -/
def codecNilCard : Claim7 := { stood := { row := codecNilRow, standIns := [], harness := (true, "33980d5adc1c61e806e3d7bb36dc6918fd4594da16c577ee6136f5da2470f74f"), looks := false }, kinds := [], alts := [], laidByText := true, laidKinds := [.data], laidTests := true, laidLooks := .later }
def CodecNilCardSaid : Prop := Claim7.holds Tryd.pinned (.plain (OpenSpec.ofChange codecNilSpec)) codecNilCard

/-- THE TIED CARD OF 'longstoplaw01.CodecBack'. -/
def codecBackCard : Claim7 := { stood := { row := codecBackRow, standIns := [], harness := (true, "33980d5adc1c61e806e3d7bb36dc6918fd4594da16c577ee6136f5da2470f74f"), looks := false }, kinds := [], alts := [], laidByText := true, laidKinds := [.data], laidTests := true, laidLooks := .later }
def CodecBackCardSaid : Prop := Claim7.holds Tryd.pinned (.plain (OpenSpec.ofChange codecBackSpec)) codecBackCard

/-- THE TIED CARD OF 'longstoplaw01.CodecOne'. -/
def codecOneCard : Claim7 := { stood := { row := codecOneRow, standIns := [], harness := (true, "33980d5adc1c61e806e3d7bb36dc6918fd4594da16c577ee6136f5da2470f74f"), looks := false }, kinds := [], alts := [], laidByText := true, laidKinds := [.data], laidTests := true, laidLooks := .later }
def CodecOneCardSaid : Prop := Claim7.holds Tryd.pinned (.plain (OpenSpec.ofChange codecOneSpec)) codecOneCard

/-- THE SECOND FORM's CARD OF 'longstoplaw01.CodecWrites'. -/
def codecWritesUptoCard : Claim7 := { stood := { row := codecWritesUptoRow, standIns := [], harness := (true, "33980d5adc1c61e806e3d7bb36dc6918fd4594da16c577ee6136f5da2470f74f"), looks := false }, kinds := [], alts := [], laidByText := true, laidKinds := [.data], laidTests := true, laidLooks := .later }
def CodecWritesUptoCardSaid : Prop := Claim7.holds Tryd.pinned (.plain (OpenSpec.upto codecWritesSpec)) codecWritesUptoCard

/-- THE SECOND FORM's CARD OF 'longstoplaw01.CodecReads'. -/
def codecReadsUptoCard : Claim7 := { stood := { row := codecReadsUptoRow, standIns := [], harness := (true, "33980d5adc1c61e806e3d7bb36dc6918fd4594da16c577ee6136f5da2470f74f"), looks := false }, kinds := [], alts := [], laidByText := true, laidKinds := [.data], laidTests := true, laidLooks := .later }
def CodecReadsUptoCardSaid : Prop := Claim7.holds Tryd.pinned (.plain (OpenSpec.upto codecReadsSpec)) codecReadsUptoCard

/-- THE SECOND FORM's CARD OF 'longstoplaw01.CodecRecords'. -/
def codecRecordsUptoCard : Claim7 := { stood := { row := codecRecordsUptoRow, standIns := [], harness := (true, "33980d5adc1c61e806e3d7bb36dc6918fd4594da16c577ee6136f5da2470f74f"), looks := false }, kinds := [], alts := [], laidByText := true, laidKinds := [.data], laidTests := true, laidLooks := .later }
def CodecRecordsUptoCardSaid : Prop := Claim7.holds Tryd.pinned (.plain (OpenSpec.upto codecRecordsSpec)) codecRecordsUptoCard

/-- THE SECOND FORM's CARD OF 'longstoplaw01.CodecNil'. -/
def codecNilUptoCard : Claim7 := { stood := { row := codecNilUptoRow, standIns := [], harness := (true, "33980d5adc1c61e806e3d7bb36dc6918fd4594da16c577ee6136f5da2470f74f"), looks := false }, kinds := [], alts := [], laidByText := true, laidKinds := [.data], laidTests := true, laidLooks := .later }
def CodecNilUptoCardSaid : Prop := Claim7.holds Tryd.pinned (.plain (OpenSpec.upto codecNilSpec)) codecNilUptoCard

/-- THE SECOND FORM's CARD OF 'longstoplaw01.CodecBack'. -/
def codecBackUptoCard : Claim7 := { stood := { row := codecBackUptoRow, standIns := [], harness := (true, "33980d5adc1c61e806e3d7bb36dc6918fd4594da16c577ee6136f5da2470f74f"), looks := false }, kinds := [], alts := [], laidByText := true, laidKinds := [.data], laidTests := true, laidLooks := .later }
def CodecBackUptoCardSaid : Prop := Claim7.holds Tryd.pinned (.plain (OpenSpec.upto codecBackSpec)) codecBackUptoCard

/-- THE SECOND FORM's CARD OF 'longstoplaw01.CodecOne'. -/
def codecOneUptoCard : Claim7 := { stood := { row := codecOneUptoRow, standIns := [], harness := (true, "33980d5adc1c61e806e3d7bb36dc6918fd4594da16c577ee6136f5da2470f74f"), looks := false }, kinds := [], alts := [], laidByText := true, laidKinds := [.data], laidTests := true, laidLooks := .later }
def CodecOneUptoCardSaid : Prop := Claim7.holds Tryd.pinned (.plain (OpenSpec.upto codecOneSpec)) codecOneUptoCard
end Rows
end Go.Proofs.YtdjilmcpkeckoaaDoor
