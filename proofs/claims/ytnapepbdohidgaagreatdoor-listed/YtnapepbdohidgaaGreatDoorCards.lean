/-
  DERIVED. GIVEN WITH THE SEED: THE CARDS: each row of YtnapepbdohidgaaGreatDoorRows.lean that lists a variable, with what it lists TIED to the program's text (the seventh form; the later family's looks); each row that meets fmt, with fmt's text TOLD by the authors' own Lean function (tested against real Go, not proved from fmt's source: count such statements apart). THE CARD IS WHAT COUNTS. Prove the row's statement (the work); the ties are given (YtnapepbdohidgaaGreatDoorTie.lean); close each card by the builder's one call (the guide's Derived/Test/ToyasCard.lean, 'card_holds'). Laid BY PROGRAM, IN A SANDBOX (cutbox-door.mjs). By AI agents, Wed Nov 11 2026. No macro, syntax, notation, axiom, sorry.
-/
import Derived.Test.YtnapepbdohidgaaGreatDoorRows
import GoSem.ClaimSeven
namespace Go.Proofs.YtnapepbdohidgaaGreatDoor
namespace Rows

/-- THE TIED CARD OF 'shelflaw.Keyed'. -/
def keyedCard : Claim7 := { stood := { row := keyedRow, standIns := [], harness := (true, "c6ed8c5b41567a4e6b53d40f32276b1f2827fa8789a59bb02fa0b17b54225cdf"), looks := false }, kinds := [], alts := [], goes := true, laidByText := true, laidKinds := [.data, .data, .data], laidTests := true, laidLooks := .later }
def KeyedCardSaid : Prop := Claim7.holds Tryz.pinned (.plain (OpenSpec.ofChange keyedSpec)) keyedCard

/-- THE TIED CARD OF 'shelfkeep.Kept'. -/
def keptCard : Claim7 := { stood := { row := keptRow, standIns := [], harness := (true, "c6ed8c5b41567a4e6b53d40f32276b1f2827fa8789a59bb02fa0b17b54225cdf"), looks := false }, kinds := [], alts := [], goes := true, laidByText := true, laidKinds := [.data, .data, .data], laidTests := true, laidLooks := .later }
def KeptCardSaid : Prop := Claim7.holds Tryz.pinned (.plain (OpenSpec.ofChange keptSpec)) keptCard

/-- THE TIED CARD OF 'shelfkeep.Prefix'. -/
def prefixCard : Claim7 := { stood := { row := prefixRow, standIns := [], harness := (true, "c6ed8c5b41567a4e6b53d40f32276b1f2827fa8789a59bb02fa0b17b54225cdf"), looks := false }, kinds := [], alts := [], goes := true, laidByText := true, laidKinds := [.data, .data, .data], laidTests := true, laidLooks := .later }
def PrefixCardSaid : Prop := Claim7.holds Tryz.pinned (.plain (OpenSpec.ofChange prefixSpec)) prefixCard

/-- THE TIED CARD OF 'shelflaw.Listed'. -/
def listedCard : Claim7 := { stood := { row := listedRow, standIns := [], harness := (true, "c6ed8c5b41567a4e6b53d40f32276b1f2827fa8789a59bb02fa0b17b54225cdf"), looks := false }, kinds := [], alts := [], goes := true, laidByText := true, laidKinds := [.data, .data, .data], laidTests := true, laidLooks := .later }
def ListedCardSaid : Prop := Claim7.holds Tryz.pinned (.plain (OpenSpec.ofChange listedSpec)) listedCard

/-- THE TIED CARD OF 'shelfkeep.Sorted'. -/
def sortedCard : Claim7 := { stood := { row := sortedRow, standIns := [], harness := (true, "c6ed8c5b41567a4e6b53d40f32276b1f2827fa8789a59bb02fa0b17b54225cdf"), looks := false }, kinds := [], alts := [], goes := true, laidByText := true, laidKinds := [.data, .data, .data], laidTests := true, laidLooks := .later }
def SortedCardSaid : Prop := Claim7.holds Tryz.pinned (.plain (OpenSpec.ofChange sortedSpec)) sortedCard

/-- THE TIED CARD OF 'shelflaw.Paged'. -/
def pagedCard : Claim7 := { stood := { row := pagedRow, standIns := [], harness := (true, "c6ed8c5b41567a4e6b53d40f32276b1f2827fa8789a59bb02fa0b17b54225cdf"), looks := false }, kinds := [], alts := [], goes := true, laidByText := true, laidKinds := [.data, .data, .data], laidTests := true, laidLooks := .later }
def PagedCardSaid : Prop := Claim7.holds Tryz.pinned (.plain (OpenSpec.ofChange pagedSpec)) pagedCard

/-- THE TIED CARD OF 'shelfkeep.Steady'. -/
def steadyCard : Claim7 := { stood := { row := steadyRow, standIns := [], harness := (true, "c6ed8c5b41567a4e6b53d40f32276b1f2827fa8789a59bb02fa0b17b54225cdf"), looks := false }, kinds := [], alts := [], goes := true, laidByText := true, laidKinds := [.data, .data, .data], laidTests := true, laidLooks := .later }
def SteadyCardSaid : Prop := Claim7.holds Tryz.pinned (.plain (OpenSpec.ofChange steadySpec)) steadyCard

/-- THE TIED CARD OF 'shelfkeep.Leased'. -/
def leasedCard : Claim7 := { stood := { row := leasedRow, standIns := [], harness := (true, "c6ed8c5b41567a4e6b53d40f32276b1f2827fa8789a59bb02fa0b17b54225cdf"), looks := false }, kinds := [], alts := [], goes := true, laidByText := true, laidKinds := [.data, .data, .data], laidTests := true, laidLooks := .later }
def LeasedCardSaid : Prop := Claim7.holds Tryz.pinned (.plain (OpenSpec.ofChange leasedSpec)) leasedCard

/-- THE TIED CARD OF 'shelfkeep.Forged'. -/
def forgedCard : Claim7 := { stood := { row := forgedRow, standIns := [], harness := (true, "c6ed8c5b41567a4e6b53d40f32276b1f2827fa8789a59bb02fa0b17b54225cdf"), looks := false }, kinds := [], alts := [], goes := true, laidByText := true, laidKinds := [.data, .data, .data], laidTests := true, laidLooks := .later }
def ForgedCardSaid : Prop := Claim7.holds Tryz.pinned (.plain (OpenSpec.ofChange forgedSpec)) forgedCard

/-- THE TIED CARD OF 'shelflaw.Runs'. -/
def runsCard : Claim7 := { stood := { row := runsRow, standIns := [], harness := (true, "c6ed8c5b41567a4e6b53d40f32276b1f2827fa8789a59bb02fa0b17b54225cdf"), looks := false }, kinds := [], alts := [], goes := true, laidByText := true, laidKinds := [.data, .data, .data], laidTests := true, laidLooks := .later }
def RunsCardSaid : Prop := Claim7.holds Tryz.pinned (.plain (OpenSpec.ofChange runsSpec)) runsCard

/-- THE TIED CARD OF 'shelfkeep.Resumed'. -/
def resumedCard : Claim7 := { stood := { row := resumedRow, standIns := [], harness := (true, "c6ed8c5b41567a4e6b53d40f32276b1f2827fa8789a59bb02fa0b17b54225cdf"), looks := false }, kinds := [], alts := [], goes := true, laidByText := true, laidKinds := [.data, .data, .data], laidTests := true, laidLooks := .later }
def ResumedCardSaid : Prop := Claim7.holds Tryz.pinned (.plain (OpenSpec.ofChange resumedSpec)) resumedCard

/-- THE TIED CARD OF 'shelfkeep.Foreign'. -/
def foreignCard : Claim7 := { stood := { row := foreignRow, standIns := [], harness := (true, "c6ed8c5b41567a4e6b53d40f32276b1f2827fa8789a59bb02fa0b17b54225cdf"), looks := false }, kinds := [], alts := [], goes := true, laidByText := true, laidKinds := [.data, .data, .data], laidTests := true, laidLooks := .later }
def ForeignCardSaid : Prop := Claim7.holds Tryz.pinned (.plain (OpenSpec.ofChange foreignSpec)) foreignCard

/-- THE SECOND FORM's CARD OF 'shelflaw.Keyed'. -/
def keyedUptoCard : Claim7 := { stood := { row := keyedUptoRow, standIns := [], harness := (true, "c6ed8c5b41567a4e6b53d40f32276b1f2827fa8789a59bb02fa0b17b54225cdf"), looks := false }, kinds := [], alts := [], goes := true, laidByText := true, laidKinds := [.data, .data, .data], laidTests := true, laidLooks := .later }
def KeyedUptoCardSaid : Prop := Claim7.holds Tryz.pinned (.plain (OpenSpec.upto keyedSpec)) keyedUptoCard

/-- THE SECOND FORM's CARD OF 'shelfkeep.Kept'. -/
def keptUptoCard : Claim7 := { stood := { row := keptUptoRow, standIns := [], harness := (true, "c6ed8c5b41567a4e6b53d40f32276b1f2827fa8789a59bb02fa0b17b54225cdf"), looks := false }, kinds := [], alts := [], goes := true, laidByText := true, laidKinds := [.data, .data, .data], laidTests := true, laidLooks := .later }
def KeptUptoCardSaid : Prop := Claim7.holds Tryz.pinned (.plain (OpenSpec.upto keptSpec)) keptUptoCard

/-- THE SECOND FORM's CARD OF 'shelfkeep.Prefix'. -/
def prefixUptoCard : Claim7 := { stood := { row := prefixUptoRow, standIns := [], harness := (true, "c6ed8c5b41567a4e6b53d40f32276b1f2827fa8789a59bb02fa0b17b54225cdf"), looks := false }, kinds := [], alts := [], goes := true, laidByText := true, laidKinds := [.data, .data, .data], laidTests := true, laidLooks := .later }
def PrefixUptoCardSaid : Prop := Claim7.holds Tryz.pinned (.plain (OpenSpec.upto prefixSpec)) prefixUptoCard

/-- THE SECOND FORM's CARD OF 'shelflaw.Listed'. -/
def listedUptoCard : Claim7 := { stood := { row := listedUptoRow, standIns := [], harness := (true, "c6ed8c5b41567a4e6b53d40f32276b1f2827fa8789a59bb02fa0b17b54225cdf"), looks := false }, kinds := [], alts := [], goes := true, laidByText := true, laidKinds := [.data, .data, .data], laidTests := true, laidLooks := .later }
def ListedUptoCardSaid : Prop := Claim7.holds Tryz.pinned (.plain (OpenSpec.upto listedSpec)) listedUptoCard

/-- THE SECOND FORM's CARD OF 'shelfkeep.Sorted'. -/
def sortedUptoCard : Claim7 := { stood := { row := sortedUptoRow, standIns := [], harness := (true, "c6ed8c5b41567a4e6b53d40f32276b1f2827fa8789a59bb02fa0b17b54225cdf"), looks := false }, kinds := [], alts := [], goes := true, laidByText := true, laidKinds := [.data, .data, .data], laidTests := true, laidLooks := .later }
def SortedUptoCardSaid : Prop := Claim7.holds Tryz.pinned (.plain (OpenSpec.upto sortedSpec)) sortedUptoCard

/-- THE SECOND FORM's CARD OF 'shelflaw.Paged'. -/
def pagedUptoCard : Claim7 := { stood := { row := pagedUptoRow, standIns := [], harness := (true, "c6ed8c5b41567a4e6b53d40f32276b1f2827fa8789a59bb02fa0b17b54225cdf"), looks := false }, kinds := [], alts := [], goes := true, laidByText := true, laidKinds := [.data, .data, .data], laidTests := true, laidLooks := .later }
def PagedUptoCardSaid : Prop := Claim7.holds Tryz.pinned (.plain (OpenSpec.upto pagedSpec)) pagedUptoCard

/-- THE SECOND FORM's CARD OF 'shelfkeep.Steady'. -/
def steadyUptoCard : Claim7 := { stood := { row := steadyUptoRow, standIns := [], harness := (true, "c6ed8c5b41567a4e6b53d40f32276b1f2827fa8789a59bb02fa0b17b54225cdf"), looks := false }, kinds := [], alts := [], goes := true, laidByText := true, laidKinds := [.data, .data, .data], laidTests := true, laidLooks := .later }
def SteadyUptoCardSaid : Prop := Claim7.holds Tryz.pinned (.plain (OpenSpec.upto steadySpec)) steadyUptoCard

/-- THE SECOND FORM's CARD OF 'shelfkeep.Leased'. -/
def leasedUptoCard : Claim7 := { stood := { row := leasedUptoRow, standIns := [], harness := (true, "c6ed8c5b41567a4e6b53d40f32276b1f2827fa8789a59bb02fa0b17b54225cdf"), looks := false }, kinds := [], alts := [], goes := true, laidByText := true, laidKinds := [.data, .data, .data], laidTests := true, laidLooks := .later }
def LeasedUptoCardSaid : Prop := Claim7.holds Tryz.pinned (.plain (OpenSpec.upto leasedSpec)) leasedUptoCard

/-- THE SECOND FORM's CARD OF 'shelfkeep.Forged'. -/
def forgedUptoCard : Claim7 := { stood := { row := forgedUptoRow, standIns := [], harness := (true, "c6ed8c5b41567a4e6b53d40f32276b1f2827fa8789a59bb02fa0b17b54225cdf"), looks := false }, kinds := [], alts := [], goes := true, laidByText := true, laidKinds := [.data, .data, .data], laidTests := true, laidLooks := .later }
def ForgedUptoCardSaid : Prop := Claim7.holds Tryz.pinned (.plain (OpenSpec.upto forgedSpec)) forgedUptoCard

/-- THE SECOND FORM's CARD OF 'shelflaw.Runs'. -/
def runsUptoCard : Claim7 := { stood := { row := runsUptoRow, standIns := [], harness := (true, "c6ed8c5b41567a4e6b53d40f32276b1f2827fa8789a59bb02fa0b17b54225cdf"), looks := false }, kinds := [], alts := [], goes := true, laidByText := true, laidKinds := [.data, .data, .data], laidTests := true, laidLooks := .later }
def RunsUptoCardSaid : Prop := Claim7.holds Tryz.pinned (.plain (OpenSpec.upto runsSpec)) runsUptoCard

/-- THE SECOND FORM's CARD OF 'shelfkeep.Resumed'. -/
def resumedUptoCard : Claim7 := { stood := { row := resumedUptoRow, standIns := [], harness := (true, "c6ed8c5b41567a4e6b53d40f32276b1f2827fa8789a59bb02fa0b17b54225cdf"), looks := false }, kinds := [], alts := [], goes := true, laidByText := true, laidKinds := [.data, .data, .data], laidTests := true, laidLooks := .later }
def ResumedUptoCardSaid : Prop := Claim7.holds Tryz.pinned (.plain (OpenSpec.upto resumedSpec)) resumedUptoCard

/-- THE SECOND FORM's CARD OF 'shelfkeep.Foreign'. -/
def foreignUptoCard : Claim7 := { stood := { row := foreignUptoRow, standIns := [], harness := (true, "c6ed8c5b41567a4e6b53d40f32276b1f2827fa8789a59bb02fa0b17b54225cdf"), looks := false }, kinds := [], alts := [], goes := true, laidByText := true, laidKinds := [.data, .data, .data], laidTests := true, laidLooks := .later }
def ForeignUptoCardSaid : Prop := Claim7.holds Tryz.pinned (.plain (OpenSpec.upto foreignSpec)) foreignUptoCard
end Rows
end Go.Proofs.YtnapepbdohidgaaGreatDoor
