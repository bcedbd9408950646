/-
  DERIVED. GIVEN WITH THE SEED: THE CARDS: each row of YtdjilmcpkeckoabDoorRows.lean that lists a variable, with what it lists TIED to the program's text (the seventh form; the later family's looks); each row that meets fmt, with fmt's text TOLD by the authors' own Lean function (tested against real Go, not proved from fmt's source: count such statements apart). THE CARD IS WHAT COUNTS. Prove the row's statement (the work); the ties are given (YtdjilmcpkeckoabDoorTie.lean); close each card by the builder's one call (the guide's Derived/Test/ToyasCard.lean, 'card_holds'). Laid BY PROGRAM, IN A SANDBOX (cutbox-door.mjs). By AI agents, Wed Nov 11 2026. No macro, syntax, notation, axiom, sorry.
-/
import Derived.Test.YtdjilmcpkeckoabDoorRows
import GoSem.ClaimSeven
namespace Go.Proofs.YtdjilmcpkeckoabDoor
namespace Rows

/-- THE TIED CARD OF 'longstoplaw01.CodecFirst'. -/
def codecFirstCard : Claim7 := { stood := { row := codecFirstRow, standIns := [], harness := (true, "7407ad5af729f844d9be52ee162eb13eea7a89c359572e45d7505d671390f79d"), looks := false }, kinds := [], alts := [], laidByText := true, laidKinds := [.data], laidTests := true, laidLooks := .later }
def CodecFirstCardSaid : Prop := Claim7.holds Tryd.pinned (.plain (OpenSpec.ofChange codecFirstSpec)) codecFirstCard

/-- THE TIED CARD OF 'longstoplaw01.CodecRot'. -/
def codecRotCard : Claim7 := { stood := { row := codecRotRow, standIns := [], harness := (true, "7407ad5af729f844d9be52ee162eb13eea7a89c359572e45d7505d671390f79d"), looks := false }, kinds := [], alts := [], laidByText := true, laidKinds := [.data], laidTests := true, laidLooks := .later }
def CodecRotCardSaid : Prop := Claim7.holds Tryd.pinned (.plain (OpenSpec.ofChange codecRotSpec)) codecRotCard

/-- THE TIED CARD OF 'longstoplaw01.CodecLinear'. -/
def codecLinearCard : Claim7 := { stood := { row := codecLinearRow, standIns := [], harness := (true, "7407ad5af729f844d9be52ee162eb13eea7a89c359572e45d7505d671390f79d"), looks := false }, kinds := [], alts := [], laidByText := true, laidKinds := [.data], laidTests := true, laidLooks := .later }
def CodecLinearCardSaid : Prop := Claim7.holds Tryd.pinned (.plain (OpenSpec.ofChange codecLinearSpec)) codecLinearCard

/-- THE SECOND FORM's CARD OF 'longstoplaw01.CodecFirst'. -/
def codecFirstUptoCard : Claim7 := { stood := { row := codecFirstUptoRow, standIns := [], harness := (true, "7407ad5af729f844d9be52ee162eb13eea7a89c359572e45d7505d671390f79d"), looks := false }, kinds := [], alts := [], laidByText := true, laidKinds := [.data], laidTests := true, laidLooks := .later }
def CodecFirstUptoCardSaid : Prop := Claim7.holds Tryd.pinned (.plain (OpenSpec.upto codecFirstSpec)) codecFirstUptoCard

/-- THE SECOND FORM's CARD OF 'longstoplaw01.CodecRot'. -/
def codecRotUptoCard : Claim7 := { stood := { row := codecRotUptoRow, standIns := [], harness := (true, "7407ad5af729f844d9be52ee162eb13eea7a89c359572e45d7505d671390f79d"), looks := false }, kinds := [], alts := [], laidByText := true, laidKinds := [.data], laidTests := true, laidLooks := .later }
def CodecRotUptoCardSaid : Prop := Claim7.holds Tryd.pinned (.plain (OpenSpec.upto codecRotSpec)) codecRotUptoCard

/-- THE SECOND FORM's CARD OF 'longstoplaw01.CodecLinear'. -/
def codecLinearUptoCard : Claim7 := { stood := { row := codecLinearUptoRow, standIns := [], harness := (true, "7407ad5af729f844d9be52ee162eb13eea7a89c359572e45d7505d671390f79d"), looks := false }, kinds := [], alts := [], laidByText := true, laidKinds := [.data], laidTests := true, laidLooks := .later }
def CodecLinearUptoCardSaid : Prop := Claim7.holds Tryd.pinned (.plain (OpenSpec.upto codecLinearSpec)) codecLinearUptoCard
end Rows
end Go.Proofs.YtdjilmcpkeckoabDoor
