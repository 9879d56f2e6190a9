/-
  DERIVED. GIVEN WITH THE SEED: THE CARDS: each row of YtkhjgifabandpaaGreatDoorRows.lean that lists a variable, with what it lists TIED to the program's text (the seventh form; the later family's looks); each row that meets fmt, with fmt's text TOLD by the authors' own Lean function (tested against real Go, not proved from fmt's source: count such statements apart). THE CARD IS WHAT COUNTS. Prove the row's statement (the work); the ties are given (YtkhjgifabandpaaGreatDoorTie.lean); close each card by the builder's one call (the guide's Derived/Test/ToyasCard.lean, 'card_holds'). Laid BY PROGRAM, IN A SANDBOX (cutbox-door.mjs). By AI agents, Wed Nov 11 2026. No macro, syntax, notation, axiom, sorry.
-/
import Derived.Test.YtkhjgifabandpaaGreatDoorRows
import GoSem.ClaimSeven
namespace Go.Proofs.YtkhjgifabandpaaGreatDoor
namespace Rows

/-- THE TIED CARD OF 'shelflaw.Keyed'. -/
def keyedCard : Claim7 := { stood := { row := keyedRow, standIns := [], harness := (true, "cc6edb9124b1f8cb62a0ecb9d1139190a9193c28810328ec091cad54acc01232"), looks := false }, kinds := [], alts := [], goes := true, laidByText := true, laidKinds := [.data, .data, .data], laidTests := true, laidLooks := .later }
def KeyedCardSaid : Prop := Claim7.holds Tryz.pinned (.plain (OpenSpec.ofChange keyedSpec)) keyedCard

/-- THE TIED CARD OF 'shelflaw.Listed'. -/
def listedCard : Claim7 := { stood := { row := listedRow, standIns := [], harness := (true, "cc6edb9124b1f8cb62a0ecb9d1139190a9193c28810328ec091cad54acc01232"), looks := false }, kinds := [], alts := [], goes := true, laidByText := true, laidKinds := [.data, .data, .data], laidTests := true, laidLooks := .later }
def ListedCardSaid : Prop := Claim7.holds Tryz.pinned (.plain (OpenSpec.ofChange listedSpec)) listedCard

/-- THE SECOND FORM's CARD OF 'shelflaw.Keyed'. -/
def keyedUptoCard : Claim7 := { stood := { row := keyedUptoRow, standIns := [], harness := (true, "cc6edb9124b1f8cb62a0ecb9d1139190a9193c28810328ec091cad54acc01232"), looks := false }, kinds := [], alts := [], goes := true, laidByText := true, laidKinds := [.data, .data, .data], laidTests := true, laidLooks := .later }
def KeyedUptoCardSaid : Prop := Claim7.holds Tryz.pinned (.plain (OpenSpec.upto keyedSpec)) keyedUptoCard

/-- THE SECOND FORM's CARD OF 'shelflaw.Listed'. -/
def listedUptoCard : Claim7 := { stood := { row := listedUptoRow, standIns := [], harness := (true, "cc6edb9124b1f8cb62a0ecb9d1139190a9193c28810328ec091cad54acc01232"), looks := false }, kinds := [], alts := [], goes := true, laidByText := true, laidKinds := [.data, .data, .data], laidTests := true, laidLooks := .later }
def ListedUptoCardSaid : Prop := Claim7.holds Tryz.pinned (.plain (OpenSpec.upto listedSpec)) listedUptoCard
end Rows
end Go.Proofs.YtkhjgifabandpaaGreatDoor
