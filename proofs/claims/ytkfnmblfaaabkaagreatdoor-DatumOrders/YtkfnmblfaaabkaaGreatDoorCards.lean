/-
  DERIVED. GIVEN WITH THE SEED: THE CARDS: each row of YtkfnmblfaaabkaaGreatDoorRows.lean that lists a variable, with what it lists TIED to the program's text (the seventh form; the later family's looks); each row that meets fmt, with fmt's text TOLD by the authors' own Lean function (tested against real Go, not proved from fmt's source: count such statements apart). THE CARD IS WHAT COUNTS. Prove the row's statement (the work); the ties are given (YtkfnmblfaaabkaaGreatDoorTie.lean); close each card by the builder's one call (the guide's Derived/Test/ToyasCard.lean, 'card_holds'). Laid BY PROGRAM, IN A SANDBOX (cutbox-door.mjs). By AI agents, Wed Nov 11 2026. No macro, syntax, notation, axiom, sorry.
-/
import Derived.Test.YtkfnmblfaaabkaaGreatDoorRows
import GoSem.ClaimSeven
namespace Go.Proofs.YtkfnmblfaaabkaaGreatDoor
namespace Rows

/-- THE TIED CARD OF 'longstoplaw04.DatumOrders'. -/
def datumOrdersCard : Claim7 := { stood := { row := datumOrdersRow, standIns := [], harness := (true, "2690b7215587b881809e2081d1f3f847491bbe8f7046a497ba2824b3a32ba4c1"), looks := true }, kinds := [], alts := [], laidByText := true, laidKinds := [.data, .data, .data, .data, .sentinel, .sentinel, .data, .pinned], laidTests := true, laidLooks := .later }
def DatumOrdersCardSaid : Prop := Claim7.holds Tryz.pinned (.plain (OpenSpec.ofChange datumOrdersSpec)) datumOrdersCard

/-- THE TIED CARD OF 'longstoplaw04.DatumBytes'. -/
def datumBytesCard : Claim7 := { stood := { row := datumBytesRow, standIns := [], harness := (true, "2690b7215587b881809e2081d1f3f847491bbe8f7046a497ba2824b3a32ba4c1"), looks := true }, kinds := [], alts := [], laidByText := true, laidKinds := [.data, .data, .data, .data, .sentinel, .sentinel, .pinned], laidTests := true, laidLooks := .later }
def DatumBytesCardSaid : Prop := Claim7.holds Tryz.pinned (.plain (OpenSpec.ofChange datumBytesSpec)) datumBytesCard

/-- THE TIED CARD OF 'longstoplaw04.DatumTexts'. -/
def datumTextsCard : Claim7 := { stood := { row := datumTextsRow, standIns := [], harness := (true, "2690b7215587b881809e2081d1f3f847491bbe8f7046a497ba2824b3a32ba4c1"), looks := true }, kinds := [], alts := [], laidByText := true, laidKinds := [.data, .data, .data, .data, .sentinel, .sentinel, .pinned], laidTests := true, laidLooks := .later }
def DatumTextsCardSaid : Prop := Claim7.holds Tryz.pinned (.plain (OpenSpec.ofChange datumTextsSpec)) datumTextsCard

/-- THE TIED CARD OF 'longstoplaw04.DatumTruths'. -/
def datumTruthsCard : Claim7 := { stood := { row := datumTruthsRow, standIns := [], harness := (true, "2690b7215587b881809e2081d1f3f847491bbe8f7046a497ba2824b3a32ba4c1"), looks := true }, kinds := [], alts := [], laidByText := true, laidKinds := [.data, .data, .data, .data, .sentinel, .sentinel, .pinned], laidTests := true, laidLooks := .later }
def DatumTruthsCardSaid : Prop := Claim7.holds Tryz.pinned (.plain (OpenSpec.ofChange datumTruthsSpec)) datumTruthsCard

/-- THE TIED CARD OF 'longstoplaw04.DatumKeys'. -/
def datumKeysCard : Claim7 := { stood := { row := datumKeysRow, standIns := [], harness := (true, "2690b7215587b881809e2081d1f3f847491bbe8f7046a497ba2824b3a32ba4c1"), looks := true }, kinds := [], alts := [], laidByText := true, laidKinds := [.data, .data, .data, .data, .sentinel, .sentinel, .data, .pinned], laidTests := true, laidLooks := .later }
def DatumKeysCardSaid : Prop := Claim7.holds Tryz.pinned (.plain (OpenSpec.ofChange datumKeysSpec)) datumKeysCard

/-- THE TIED CARD OF 'longstoplaw04.DatumBack'. -/
def datumBackCard : Claim7 := { stood := { row := datumBackRow, standIns := [], harness := (true, "2690b7215587b881809e2081d1f3f847491bbe8f7046a497ba2824b3a32ba4c1"), looks := true }, kinds := [], alts := [], laidByText := true, laidKinds := [.data, .data, .data, .data, .sentinel, .sentinel, .pinned], laidTests := true, laidLooks := .later }
def DatumBackCardSaid : Prop := Claim7.holds Tryz.pinned (.plain (OpenSpec.ofChange datumBackSpec)) datumBackCard

/-- THE SECOND FORM's CARD OF 'longstoplaw04.DatumOrders'. -/
def datumOrdersUptoCard : Claim7 := { stood := { row := datumOrdersUptoRow, standIns := [], harness := (true, "2690b7215587b881809e2081d1f3f847491bbe8f7046a497ba2824b3a32ba4c1"), looks := true }, kinds := [], alts := [], laidByText := true, laidKinds := [.data, .data, .data, .data, .sentinel, .sentinel, .data, .pinned], laidTests := true, laidLooks := .later }
def DatumOrdersUptoCardSaid : Prop := Claim7.holds Tryz.pinned (.plain (OpenSpec.upto datumOrdersSpec)) datumOrdersUptoCard

/-- THE SECOND FORM's CARD OF 'longstoplaw04.DatumBytes'. -/
def datumBytesUptoCard : Claim7 := { stood := { row := datumBytesUptoRow, standIns := [], harness := (true, "2690b7215587b881809e2081d1f3f847491bbe8f7046a497ba2824b3a32ba4c1"), looks := true }, kinds := [], alts := [], laidByText := true, laidKinds := [.data, .data, .data, .data, .sentinel, .sentinel, .pinned], laidTests := true, laidLooks := .later }
def DatumBytesUptoCardSaid : Prop := Claim7.holds Tryz.pinned (.plain (OpenSpec.upto datumBytesSpec)) datumBytesUptoCard

/-- THE SECOND FORM's CARD OF 'longstoplaw04.DatumTexts'. -/
def datumTextsUptoCard : Claim7 := { stood := { row := datumTextsUptoRow, standIns := [], harness := (true, "2690b7215587b881809e2081d1f3f847491bbe8f7046a497ba2824b3a32ba4c1"), looks := true }, kinds := [], alts := [], laidByText := true, laidKinds := [.data, .data, .data, .data, .sentinel, .sentinel, .pinned], laidTests := true, laidLooks := .later }
def DatumTextsUptoCardSaid : Prop := Claim7.holds Tryz.pinned (.plain (OpenSpec.upto datumTextsSpec)) datumTextsUptoCard

/-- THE SECOND FORM's CARD OF 'longstoplaw04.DatumTruths'. -/
def datumTruthsUptoCard : Claim7 := { stood := { row := datumTruthsUptoRow, standIns := [], harness := (true, "2690b7215587b881809e2081d1f3f847491bbe8f7046a497ba2824b3a32ba4c1"), looks := true }, kinds := [], alts := [], laidByText := true, laidKinds := [.data, .data, .data, .data, .sentinel, .sentinel, .pinned], laidTests := true, laidLooks := .later }
def DatumTruthsUptoCardSaid : Prop := Claim7.holds Tryz.pinned (.plain (OpenSpec.upto datumTruthsSpec)) datumTruthsUptoCard

/-- THE SECOND FORM's CARD OF 'longstoplaw04.DatumKeys'. -/
def datumKeysUptoCard : Claim7 := { stood := { row := datumKeysUptoRow, standIns := [], harness := (true, "2690b7215587b881809e2081d1f3f847491bbe8f7046a497ba2824b3a32ba4c1"), looks := true }, kinds := [], alts := [], laidByText := true, laidKinds := [.data, .data, .data, .data, .sentinel, .sentinel, .data, .pinned], laidTests := true, laidLooks := .later }
def DatumKeysUptoCardSaid : Prop := Claim7.holds Tryz.pinned (.plain (OpenSpec.upto datumKeysSpec)) datumKeysUptoCard

/-- THE SECOND FORM's CARD OF 'longstoplaw04.DatumBack'. -/
def datumBackUptoCard : Claim7 := { stood := { row := datumBackUptoRow, standIns := [], harness := (true, "2690b7215587b881809e2081d1f3f847491bbe8f7046a497ba2824b3a32ba4c1"), looks := true }, kinds := [], alts := [], laidByText := true, laidKinds := [.data, .data, .data, .data, .sentinel, .sentinel, .pinned], laidTests := true, laidLooks := .later }
def DatumBackUptoCardSaid : Prop := Claim7.holds Tryz.pinned (.plain (OpenSpec.upto datumBackSpec)) datumBackUptoCard
end Rows
end Go.Proofs.YtkfnmblfaaabkaaGreatDoor
