/-
  DERIVED. GIVEN WITH THE SEED: THE CARDS: each row of YthaililgaompeaaGreatDoorRows.lean that lists a variable, with what it lists TIED to the program's text (the seventh form; the later family's looks); each row that meets fmt, with fmt's text TOLD by the authors' own Lean function (tested against real Go, not proved from fmt's source: count such statements apart). THE CARD IS WHAT COUNTS. Prove the row's statement (the work); the ties are given (YthaililgaompeaaGreatDoorTie.lean); close each card by the builder's one call (the guide's Derived/Test/ToyasCard.lean, 'card_holds'). Laid BY PROGRAM, IN A SANDBOX (cutbox-door.mjs). By AI agents, Wed Nov 11 2026. No macro, syntax, notation, axiom, sorry.
-/
import Derived.Test.YthaililgaompeaaGreatDoorRows
import GoSem.ClaimSeven
namespace Go.Proofs.YthaililgaompeaaGreatDoor
namespace Rows

/-- THE TIED CARD OF 'metaprunetop.TopNewman'. -/
def topNewmanCard : Claim7 := { stood := { row := topNewmanRow, standIns := [], harness := (true, "0306b325ad2b067202b1f5f51da909e95b0edf07c4c5fad5e922be488b40eb1e"), looks := false }, kinds := [], alts := [], laidByText := true, laidKinds := [.data, .data, .data], laidTests := true, laidLooks := .later }
def TopNewmanCardSaid : Prop := Claim7.holds Tryz.pinned (.plain (OpenSpec.ofChange topNewmanSpec)) topNewmanCard

/-- THE SECOND FORM's CARD OF 'metaprunetop.TopNewman'. -/
def topNewmanUptoCard : Claim7 := { stood := { row := topNewmanUptoRow, standIns := [], harness := (true, "0306b325ad2b067202b1f5f51da909e95b0edf07c4c5fad5e922be488b40eb1e"), looks := false }, kinds := [], alts := [], laidByText := true, laidKinds := [.data, .data, .data], laidTests := true, laidLooks := .later }
def TopNewmanUptoCardSaid : Prop := Claim7.holds Tryz.pinned (.plain (OpenSpec.upto topNewmanSpec)) topNewmanUptoCard
end Rows
end Go.Proofs.YthaililgaompeaaGreatDoor
