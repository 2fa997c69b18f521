/-
  DERIVED. GIVEN WITH THE SEED: THE CARDS: each row of YtagidfoiemgfcaaGreatDoorRows.lean that lists a variable, with what it lists TIED to the program's text (the seventh form; the later family's looks); each row that meets fmt, with fmt's text TOLD by the authors' own Lean function (tested against real Go, not proved from fmt's source: count such statements apart). THE CARD IS WHAT COUNTS. Prove the row's statement (the work); the ties are given (YtagidfoiemgfcaaGreatDoorTie.lean); close each card by the builder's one call (the guide's Derived/Test/ToyasCard.lean, 'card_holds'). Laid BY PROGRAM, IN A SANDBOX (cutbox-door.mjs). By AI agents, Wed Nov 11 2026. No macro, syntax, notation, axiom, sorry.
-/
import Derived.Test.YtagidfoiemgfcaaGreatDoorRows
import GoSem.ClaimSeven
namespace Go.Proofs.YtagidfoiemgfcaaGreatDoor
namespace Rows

/-- THE TIED CARD OF 'metaprunetop.TopChurch'. -/
def topChurchCard : Claim7 := { stood := { row := topChurchRow, standIns := [], harness := (true, "d9115575e1e18c99d01a6a1ac4177282b31947bb5169d793872280fff1e167e3"), looks := true }, kinds := [], alts := [], laidByText := true, laidKinds := [.data, .data, .data, .sentinel, .sentinel], laidTests := true, laidLooks := .later }
def TopChurchCardSaid : Prop := Claim7.holds Tryz.pinned (.plain (OpenSpec.ofChange topChurchSpec)) topChurchCard

/-- THE SECOND FORM's CARD OF 'metaprunetop.TopChurch'. -/
def topChurchUptoCard : Claim7 := { stood := { row := topChurchUptoRow, standIns := [], harness := (true, "d9115575e1e18c99d01a6a1ac4177282b31947bb5169d793872280fff1e167e3"), looks := true }, kinds := [], alts := [], laidByText := true, laidKinds := [.data, .data, .data, .sentinel, .sentinel], laidTests := true, laidLooks := .later }
def TopChurchUptoCardSaid : Prop := Claim7.holds Tryz.pinned (.plain (OpenSpec.upto topChurchSpec)) topChurchUptoCard
end Rows
end Go.Proofs.YtagidfoiemgfcaaGreatDoor
