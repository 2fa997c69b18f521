/-
  DERIVED. GIVEN WITH THE SEED: THE CARDS: each row of YtnllgbcakmddkaaGreatDoorRows.lean that lists a variable, with what it lists TIED to the program's text (the seventh form; the later family's looks); each row that meets fmt, with fmt's text TOLD by the authors' own Lean function (tested against real Go, not proved from fmt's source: count such statements apart). THE CARD IS WHAT COUNTS. Prove the row's statement (the work); the ties are given (YtnllgbcakmddkaaGreatDoorTie.lean); close each card by the builder's one call (the guide's Derived/Test/ToyasCard.lean, 'card_holds'). Laid BY PROGRAM, IN A SANDBOX (cutbox-door.mjs). By AI agents, Wed Nov 11 2026. No macro, syntax, notation, axiom, sorry.
-/
import Derived.Test.YtnllgbcakmddkaaGreatDoorRows
import GoSem.ClaimSeven
namespace Go.Proofs.YtnllgbcakmddkaaGreatDoor
namespace Rows

/-- THE TIED CARD OF 'metaprunetop.TopTakahashi'. -/
def topTakahashiCard : Claim7 := { stood := { row := topTakahashiRow, standIns := [], harness := (true, "6edfbb46117060185dfad272579d075853a8e512a27dc22dbbea23d76a8e5aa5"), looks := true }, kinds := [], alts := [], laidByText := true, laidKinds := [.data, .data, .data, .sentinel, .sentinel], laidTests := true, laidLooks := .later }
def TopTakahashiCardSaid : Prop := Claim7.holds Tryz.pinned (.plain (OpenSpec.ofChange topTakahashiSpec)) topTakahashiCard

/-- THE SECOND FORM's CARD OF 'metaprunetop.TopTakahashi'. -/
def topTakahashiUptoCard : Claim7 := { stood := { row := topTakahashiUptoRow, standIns := [], harness := (true, "6edfbb46117060185dfad272579d075853a8e512a27dc22dbbea23d76a8e5aa5"), looks := true }, kinds := [], alts := [], laidByText := true, laidKinds := [.data, .data, .data, .sentinel, .sentinel], laidTests := true, laidLooks := .later }
def TopTakahashiUptoCardSaid : Prop := Claim7.holds Tryz.pinned (.plain (OpenSpec.upto topTakahashiSpec)) topTakahashiUptoCard
end Rows
end Go.Proofs.YtnllgbcakmddkaaGreatDoor
