/-
  DERIVED. GIVEN WITH THE SEED: THE CARDS: each row of YtfbkakchaabgeabDoorRows.lean that lists a variable, with what it lists TIED to the program's text (the seventh form; the later family's looks); each row that meets fmt, with fmt's text TOLD by the authors' own Lean function (tested against real Go, not proved from fmt's source: count such statements apart). THE CARD IS WHAT COUNTS. Prove the row's statement (the work); the ties are given (YtfbkakchaabgeabDoorTie.lean); close each card by the builder's one call (the guide's Derived/Test/ToyasCard.lean, 'card_holds'). Laid BY PROGRAM, IN A SANDBOX (cutbox-door.mjs). By AI agents, Wed Nov 11 2026. No macro, syntax, notation, axiom, sorry.
-/
import Derived.Test.YtfbkakchaabgeabDoorRows
import GoSem.ClaimSeven
namespace Go.Proofs.YtfbkakchaabgeabDoor
namespace Rows

/-- THE TIED CARD OF 'longstoplaw02.DecimalOrder'. -/
def decimalOrderCard : Claim7 := { stood := { row := decimalOrderRow, standIns := [], harness := (true, "c0ace95743c019ab202b8b5fd833f07320d9ee7bd5e047bc0ad7015efc1b5e69"), looks := false }, kinds := [], alts := [], laidByText := true, laidKinds := [.data], laidTests := true, laidLooks := .later }
def DecimalOrderCardSaid : Prop := Claim7.holds Tryd.pinned (.plain (OpenSpec.ofChange decimalOrderSpec)) decimalOrderCard

/-- THE TIED CARD OF 'longstoplaw02.DecimalNear'. -/
def decimalNearCard : Claim7 := { stood := { row := decimalNearRow, standIns := [], harness := (true, "c0ace95743c019ab202b8b5fd833f07320d9ee7bd5e047bc0ad7015efc1b5e69"), looks := false }, kinds := [], alts := [], laidByText := true, laidKinds := [.data], laidTests := true, laidLooks := .later }
def DecimalNearCardSaid : Prop := Claim7.holds Tryd.pinned (.plain (OpenSpec.ofChange decimalNearSpec)) decimalNearCard

/-- THE TIED CARD OF 'longstoplaw02.DecimalSigns'. -/
def decimalSignsCard : Claim7 := { stood := { row := decimalSignsRow, standIns := [], harness := (true, "c0ace95743c019ab202b8b5fd833f07320d9ee7bd5e047bc0ad7015efc1b5e69"), looks := false }, kinds := [], alts := [], laidByText := true, laidKinds := [.data], laidTests := true, laidLooks := .later }
def DecimalSignsCardSaid : Prop := Claim7.holds Tryd.pinned (.plain (OpenSpec.ofChange decimalSignsSpec)) decimalSignsCard

/-- THE SECOND FORM's CARD OF 'longstoplaw02.DecimalOrder'. -/
def decimalOrderUptoCard : Claim7 := { stood := { row := decimalOrderUptoRow, standIns := [], harness := (true, "c0ace95743c019ab202b8b5fd833f07320d9ee7bd5e047bc0ad7015efc1b5e69"), looks := false }, kinds := [], alts := [], laidByText := true, laidKinds := [.data], laidTests := true, laidLooks := .later }
def DecimalOrderUptoCardSaid : Prop := Claim7.holds Tryd.pinned (.plain (OpenSpec.upto decimalOrderSpec)) decimalOrderUptoCard

/-- THE SECOND FORM's CARD OF 'longstoplaw02.DecimalNear'. -/
def decimalNearUptoCard : Claim7 := { stood := { row := decimalNearUptoRow, standIns := [], harness := (true, "c0ace95743c019ab202b8b5fd833f07320d9ee7bd5e047bc0ad7015efc1b5e69"), looks := false }, kinds := [], alts := [], laidByText := true, laidKinds := [.data], laidTests := true, laidLooks := .later }
def DecimalNearUptoCardSaid : Prop := Claim7.holds Tryd.pinned (.plain (OpenSpec.upto decimalNearSpec)) decimalNearUptoCard

/-- THE SECOND FORM's CARD OF 'longstoplaw02.DecimalSigns'. -/
def decimalSignsUptoCard : Claim7 := { stood := { row := decimalSignsUptoRow, standIns := [], harness := (true, "c0ace95743c019ab202b8b5fd833f07320d9ee7bd5e047bc0ad7015efc1b5e69"), looks := false }, kinds := [], alts := [], laidByText := true, laidKinds := [.data], laidTests := true, laidLooks := .later }
def DecimalSignsUptoCardSaid : Prop := Claim7.holds Tryd.pinned (.plain (OpenSpec.upto decimalSignsSpec)) decimalSignsUptoCard
end Rows
end Go.Proofs.YtfbkakchaabgeabDoor
