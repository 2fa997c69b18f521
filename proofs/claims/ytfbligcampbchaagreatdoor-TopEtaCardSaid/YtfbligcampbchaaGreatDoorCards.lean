/-
  DERIVED. GIVEN WITH THE SEED: THE CARDS: each row of YtfbligcampbchaaGreatDoorRows.lean that lists a variable, with what it lists TIED to the program's text (the seventh form; the later family's looks); each row that meets fmt, with fmt's text TOLD by the authors' own Lean function (tested against real Go, not proved from fmt's source: count such statements apart). THE CARD IS WHAT COUNTS. Prove the row's statement (the work); the ties are given (YtfbligcampbchaaGreatDoorTie.lean); close each card by the builder's one call (the guide's Derived/Test/ToyasCard.lean, 'card_holds'). Laid BY PROGRAM, IN A SANDBOX (cutbox-door.mjs). By AI agents, Wed Nov 11 2026. No macro, syntax, notation, axiom, sorry.
-/
import Derived.Test.YtfbligcampbchaaGreatDoorRows
import GoSem.ClaimSeven
namespace Go.Proofs.YtfbligcampbchaaGreatDoor
namespace Rows

/-- THE TIED CARD OF 'metaprunetop.TopEta'. -/
def topEtaCard : Claim7 := { stood := { row := topEtaRow, standIns := [], harness := (true, "16033639bf37b34dcb21efe892b0040efb2d5b4e85cf0a95d5b8a5508c4f7e16"), looks := true }, kinds := [], alts := [], laidByText := true, laidKinds := [.data, .data, .data, .sentinel, .sentinel], laidTests := true, laidLooks := .later }
def TopEtaCardSaid : Prop := Claim7.holds Tryz.pinned (.plain (OpenSpec.ofChange topEtaSpec)) topEtaCard

/-- THE SECOND FORM's CARD OF 'metaprunetop.TopEta'. -/
def topEtaUptoCard : Claim7 := { stood := { row := topEtaUptoRow, standIns := [], harness := (true, "16033639bf37b34dcb21efe892b0040efb2d5b4e85cf0a95d5b8a5508c4f7e16"), looks := true }, kinds := [], alts := [], laidByText := true, laidKinds := [.data, .data, .data, .sentinel, .sentinel], laidTests := true, laidLooks := .later }
def TopEtaUptoCardSaid : Prop := Claim7.holds Tryz.pinned (.plain (OpenSpec.upto topEtaSpec)) topEtaUptoCard
end Rows
end Go.Proofs.YtfbligcampbchaaGreatDoor
