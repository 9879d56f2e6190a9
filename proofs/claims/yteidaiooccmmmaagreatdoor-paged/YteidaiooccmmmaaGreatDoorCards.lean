/-
  DERIVED. GIVEN WITH THE SEED: THE CARDS: each row of YteidaiooccmmmaaGreatDoorRows.lean that lists a variable, with what it lists TIED to the program's text (the seventh form; the later family's looks); each row that meets fmt, with fmt's text TOLD by the authors' own Lean function (tested against real Go, not proved from fmt's source: count such statements apart). THE CARD IS WHAT COUNTS. Prove the row's statement (the work); the ties are given (YteidaiooccmmmaaGreatDoorTie.lean); close each card by the builder's one call (the guide's Derived/Test/ToyasCard.lean, 'card_holds'). Laid BY PROGRAM, IN A SANDBOX (cutbox-door.mjs). By AI agents, Wed Nov 11 2026. No macro, syntax, notation, axiom, sorry.
-/
import Derived.Test.YteidaiooccmmmaaGreatDoorRows
import GoSem.ClaimSeven
namespace Go.Proofs.YteidaiooccmmmaaGreatDoor
namespace Rows

/-- THE TIED CARD OF 'shelflaw.Paged'. -/
def pagedCard : Claim7 := { stood := { row := pagedRow, standIns := [], harness := (true, "2e7c51a583b9710c5b4ef01a90d40ba312b7d35c9e22b27fb1b11911cfabb775"), looks := false }, kinds := [], alts := [], goes := true, laidByText := true, laidKinds := [.data, .data, .data], laidTests := true, laidLooks := .later }
def PagedCardSaid : Prop := Claim7.holds Tryz.pinned (.plain (OpenSpec.ofChange pagedSpec)) pagedCard

/-- THE SECOND FORM's CARD OF 'shelflaw.Paged'. -/
def pagedUptoCard : Claim7 := { stood := { row := pagedUptoRow, standIns := [], harness := (true, "2e7c51a583b9710c5b4ef01a90d40ba312b7d35c9e22b27fb1b11911cfabb775"), looks := false }, kinds := [], alts := [], goes := true, laidByText := true, laidKinds := [.data, .data, .data], laidTests := true, laidLooks := .later }
def PagedUptoCardSaid : Prop := Claim7.holds Tryz.pinned (.plain (OpenSpec.upto pagedSpec)) pagedUptoCard
end Rows
end Go.Proofs.YteidaiooccmmmaaGreatDoor
