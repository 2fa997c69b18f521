/-
  DERIVED. GIVEN WITH THE SEED: THE CARDS: each row of YtgbcafaibocebaaGreatDoorRows.lean that lists a variable, with what it lists TIED to the program's text (the seventh form; the later family's looks); each row that meets fmt, with fmt's text TOLD by the authors' own Lean function (tested against real Go, not proved from fmt's source: count such statements apart). THE CARD IS WHAT COUNTS. Prove the row's statement (the work); the ties are given (YtgbcafaibocebaaGreatDoorTie.lean); close each card by the builder's one call (the guide's Derived/Test/ToyasCard.lean, 'card_holds'). Laid BY PROGRAM, IN A SANDBOX (cutbox-door.mjs). By AI agents, Wed Nov 11 2026. No macro, syntax, notation, axiom, sorry.
-/
import Derived.Test.YtgbcafaibocebaaGreatDoorRows
import GoSem.ClaimSeven
namespace Go.Proofs.YtgbcafaibocebaaGreatDoor
namespace Rows

/-- THE TIED CARD OF 'metaprunelaw.CriticalMade'. -/
def criticalMadeCard : Claim7 := { stood := { row := criticalMadeRow, standIns := [], harness := (true, "079891ddebb2699d7a1299f7a2259e25b2682ab842a231098820d1da4f4d710c"), looks := false }, kinds := [], alts := [], laidByText := true, laidKinds := [.data, .data, .data], laidTests := true, laidLooks := .later }
def CriticalMadeCardSaid : Prop := Claim7.holds Tryz.pinned (.plain (OpenSpec.ofChange criticalMadeSpec)) criticalMadeCard

/-- THE SECOND FORM's CARD OF 'metaprunelaw.CriticalMade'. -/
def criticalMadeUptoCard : Claim7 := { stood := { row := criticalMadeUptoRow, standIns := [], harness := (true, "079891ddebb2699d7a1299f7a2259e25b2682ab842a231098820d1da4f4d710c"), looks := false }, kinds := [], alts := [], laidByText := true, laidKinds := [.data, .data, .data], laidTests := true, laidLooks := .later }
def CriticalMadeUptoCardSaid : Prop := Claim7.holds Tryz.pinned (.plain (OpenSpec.upto criticalMadeSpec)) criticalMadeUptoCard
end Rows
end Go.Proofs.YtgbcafaibocebaaGreatDoor
