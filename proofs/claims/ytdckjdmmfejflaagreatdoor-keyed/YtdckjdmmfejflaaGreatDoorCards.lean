/-
  DERIVED. GIVEN WITH THE SEED: THE CARDS: each row of YtdckjdmmfejflaaGreatDoorRows.lean that lists a variable, with what it lists TIED to the program's text (the seventh form; the later family's looks); each row that meets fmt, with fmt's text TOLD by the authors' own Lean function (tested against real Go, not proved from fmt's source: count such statements apart). THE CARD IS WHAT COUNTS. Prove the row's statement (the work); the ties are given (YtdckjdmmfejflaaGreatDoorTie.lean); close each card by the builder's one call (the guide's Derived/Test/ToyasCard.lean, 'card_holds'). Laid BY PROGRAM, IN A SANDBOX (cutbox-door.mjs). By AI agents, Wed Nov 11 2026. No macro, syntax, notation, axiom, sorry.
-/
import Derived.Test.YtdckjdmmfejflaaGreatDoorRows
import GoSem.ClaimSeven
namespace Go.Proofs.YtdckjdmmfejflaaGreatDoor
namespace Rows

/-- THE TIED CARD OF 'shelflaw.Keyed'. -/
def keyedCard : Claim7 := { stood := { row := keyedRow, standIns := [], harness := (true, "eaa3440289f64fca593b9cefc16b245f169c4987da46feb4f75efed8dcb58f5e"), looks := false }, kinds := [], alts := [], goes := true, laidByText := true, laidKinds := [.data, .data, .data], laidTests := true, laidLooks := .later }
def KeyedCardSaid : Prop := Claim7.holds Tryz.pinned (.plain (OpenSpec.ofChange keyedSpec)) keyedCard

/-- THE TIED CARD OF 'shelflaw.Listed'. -/
def listedCard : Claim7 := { stood := { row := listedRow, standIns := [], harness := (true, "eaa3440289f64fca593b9cefc16b245f169c4987da46feb4f75efed8dcb58f5e"), looks := false }, kinds := [], alts := [], goes := true, laidByText := true, laidKinds := [.data, .data, .data], laidTests := true, laidLooks := .later }
def ListedCardSaid : Prop := Claim7.holds Tryz.pinned (.plain (OpenSpec.ofChange listedSpec)) listedCard

/-- THE TIED CARD OF 'shelfkeep.Sorted'. -/
def sortedCard : Claim7 := { stood := { row := sortedRow, standIns := [], harness := (true, "eaa3440289f64fca593b9cefc16b245f169c4987da46feb4f75efed8dcb58f5e"), looks := false }, kinds := [], alts := [], goes := true, laidByText := true, laidKinds := [.data, .data, .data], laidTests := true, laidLooks := .later }
def SortedCardSaid : Prop := Claim7.holds Tryz.pinned (.plain (OpenSpec.ofChange sortedSpec)) sortedCard

/-- THE TIED CARD OF 'shelflaw.Paged'. -/
def pagedCard : Claim7 := { stood := { row := pagedRow, standIns := [], harness := (true, "eaa3440289f64fca593b9cefc16b245f169c4987da46feb4f75efed8dcb58f5e"), looks := false }, kinds := [], alts := [], goes := true, laidByText := true, laidKinds := [.data, .data, .data], laidTests := true, laidLooks := .later }
def PagedCardSaid : Prop := Claim7.holds Tryz.pinned (.plain (OpenSpec.ofChange pagedSpec)) pagedCard

/-- THE TIED CARD OF 'shelfkeep.Steady'. -/
def steadyCard : Claim7 := { stood := { row := steadyRow, standIns := [], harness := (true, "eaa3440289f64fca593b9cefc16b245f169c4987da46feb4f75efed8dcb58f5e"), looks := false }, kinds := [], alts := [], goes := true, laidByText := true, laidKinds := [.data, .data, .data], laidTests := true, laidLooks := .later }
def SteadyCardSaid : Prop := Claim7.holds Tryz.pinned (.plain (OpenSpec.ofChange steadySpec)) steadyCard

/-- THE SECOND FORM's CARD OF 'shelflaw.Keyed'. -/
def keyedUptoCard : Claim7 := { stood := { row := keyedUptoRow, standIns := [], harness := (true, "eaa3440289f64fca593b9cefc16b245f169c4987da46feb4f75efed8dcb58f5e"), looks := false }, kinds := [], alts := [], goes := true, laidByText := true, laidKinds := [.data, .data, .data], laidTests := true, laidLooks := .later }
def KeyedUptoCardSaid : Prop := Claim7.holds Tryz.pinned (.plain (OpenSpec.upto keyedSpec)) keyedUptoCard

/-- THE SECOND FORM's CARD OF 'shelflaw.Listed'. -/
def listedUptoCard : Claim7 := { stood := { row := listedUptoRow, standIns := [], harness := (true, "eaa3440289f64fca593b9cefc16b245f169c4987da46feb4f75efed8dcb58f5e"), looks := false }, kinds := [], alts := [], goes := true, laidByText := true, laidKinds := [.data, .data, .data], laidTests := true, laidLooks := .later }
def ListedUptoCardSaid : Prop := Claim7.holds Tryz.pinned (.plain (OpenSpec.upto listedSpec)) listedUptoCard

/-- THE SECOND FORM's CARD OF 'shelfkeep.Sorted'. -/
def sortedUptoCard : Claim7 := { stood := { row := sortedUptoRow, standIns := [], harness := (true, "eaa3440289f64fca593b9cefc16b245f169c4987da46feb4f75efed8dcb58f5e"), looks := false }, kinds := [], alts := [], goes := true, laidByText := true, laidKinds := [.data, .data, .data], laidTests := true, laidLooks := .later }
def SortedUptoCardSaid : Prop := Claim7.holds Tryz.pinned (.plain (OpenSpec.upto sortedSpec)) sortedUptoCard

/-- THE SECOND FORM's CARD OF 'shelflaw.Paged'. -/
def pagedUptoCard : Claim7 := { stood := { row := pagedUptoRow, standIns := [], harness := (true, "eaa3440289f64fca593b9cefc16b245f169c4987da46feb4f75efed8dcb58f5e"), looks := false }, kinds := [], alts := [], goes := true, laidByText := true, laidKinds := [.data, .data, .data], laidTests := true, laidLooks := .later }
def PagedUptoCardSaid : Prop := Claim7.holds Tryz.pinned (.plain (OpenSpec.upto pagedSpec)) pagedUptoCard

/-- THE SECOND FORM's CARD OF 'shelfkeep.Steady'. -/
def steadyUptoCard : Claim7 := { stood := { row := steadyUptoRow, standIns := [], harness := (true, "eaa3440289f64fca593b9cefc16b245f169c4987da46feb4f75efed8dcb58f5e"), looks := false }, kinds := [], alts := [], goes := true, laidByText := true, laidKinds := [.data, .data, .data], laidTests := true, laidLooks := .later }
def SteadyUptoCardSaid : Prop := Claim7.holds Tryz.pinned (.plain (OpenSpec.upto steadySpec)) steadyUptoCard
end Rows
end Go.Proofs.YtdckjdmmfejflaaGreatDoor
