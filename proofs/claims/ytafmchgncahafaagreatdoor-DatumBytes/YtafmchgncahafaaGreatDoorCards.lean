/-
  DERIVED. GIVEN WITH THE SEED: THE CARDS: each row of YtafmchgncahafaaGreatDoorRows.lean that lists a variable, with what it lists TIED to the program's text (the seventh form; the later family's looks); each row that meets fmt, with fmt's text TOLD by the authors' own Lean function (tested against real Go, not proved from fmt's source: count such statements apart). THE CARD IS WHAT COUNTS. Prove the row's statement (the work); the ties are given (YtafmchgncahafaaGreatDoorTie.lean); close each card by the builder's one call (the guide's Derived/Test/ToyasCard.lean, 'card_holds'). Laid BY PROGRAM, IN A SANDBOX (cutbox-door.mjs). By AI agents, Wed Nov 11 2026. No macro, syntax, notation, axiom, sorry.
-/
import Derived.Test.YtafmchgncahafaaGreatDoorRows
import GoSem.ClaimSeven
namespace Go.Proofs.YtafmchgncahafaaGreatDoor
namespace Rows

/-- THE TIED CARD OF 'longstoplaw04.DatumBytes'. -/
def datumBytesCard : Claim7 := { stood := { row := datumBytesRow, standIns := [], harness := (true, "b43f7d4679b3cd1303a914f42004e45c54d919fb31e506e79c95253fbf8c86c9"), looks := true }, kinds := [], alts := [], laidByText := true, laidKinds := [.data, .data, .data, .data, .sentinel, .sentinel, .pinned], laidTests := true, laidLooks := .later }
def DatumBytesCardSaid : Prop := Claim7.holds Tryz.pinned (.plain (OpenSpec.ofChange datumBytesSpec)) datumBytesCard

/-- THE SECOND FORM's CARD OF 'longstoplaw04.DatumBytes'. -/
def datumBytesUptoCard : Claim7 := { stood := { row := datumBytesUptoRow, standIns := [], harness := (true, "b43f7d4679b3cd1303a914f42004e45c54d919fb31e506e79c95253fbf8c86c9"), looks := true }, kinds := [], alts := [], laidByText := true, laidKinds := [.data, .data, .data, .data, .sentinel, .sentinel, .pinned], laidTests := true, laidLooks := .later }
def DatumBytesUptoCardSaid : Prop := Claim7.holds Tryz.pinned (.plain (OpenSpec.upto datumBytesSpec)) datumBytesUptoCard
end Rows
end Go.Proofs.YtafmchgncahafaaGreatDoor
