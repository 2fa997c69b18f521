/-
  DERIVED. GIVEN WITH THE SEED: THE CARDS: each row of YthnncjgjmohinaaGreatDoorRows.lean that lists a variable, with what it lists TIED to the program's text (the seventh form; the later family's looks); each row that meets fmt, with fmt's text TOLD by the authors' own Lean function (tested against real Go, not proved from fmt's source: count such statements apart). THE CARD IS WHAT COUNTS. Prove the row's statement (the work); the ties are given (YthnncjgjmohinaaGreatDoorTie.lean); close each card by the builder's one call (the guide's Derived/Test/ToyasCard.lean, 'card_holds'). Laid BY PROGRAM, IN A SANDBOX (cutbox-door.mjs). By AI agents, Wed Nov 11 2026. No macro, syntax, notation, axiom, sorry.
-/
import Derived.Test.YthnncjgjmohinaaGreatDoorRows
import GoSem.ClaimSeven
namespace Go.Proofs.YthnncjgjmohinaaGreatDoor
namespace Rows

/-- THE TIED CARD OF 'metaprunelaw.InferMade'. -/
def inferMadeCard : Claim7 := { stood := { row := inferMadeRow, standIns := [], harness := (true, "b391d7b44d5a2822e503d5d4a7e3e349be37675e7349a01d4e6f72951792992c"), looks := false }, kinds := [], alts := [], laidByText := true, laidKinds := [.data, .data, .data], laidTests := true, laidLooks := .later }
def InferMadeCardSaid : Prop := Claim7.holds Tryz.pinned (.plain (OpenSpec.ofChange inferMadeSpec)) inferMadeCard

/-- THE SECOND FORM's CARD OF 'metaprunelaw.InferMade'. -/
def inferMadeUptoCard : Claim7 := { stood := { row := inferMadeUptoRow, standIns := [], harness := (true, "b391d7b44d5a2822e503d5d4a7e3e349be37675e7349a01d4e6f72951792992c"), looks := false }, kinds := [], alts := [], laidByText := true, laidKinds := [.data, .data, .data], laidTests := true, laidLooks := .later }
def InferMadeUptoCardSaid : Prop := Claim7.holds Tryz.pinned (.plain (OpenSpec.upto inferMadeSpec)) inferMadeUptoCard
end Rows
end Go.Proofs.YthnncjgjmohinaaGreatDoor
