/-
  DERIVED. GIVEN WITH THE SEED: THE CARDS: each row of YtlkeafenklamjaaGreatDoorRows.lean that lists a variable, with what it lists TIED to the program's text (the seventh form; the later family's looks); each row that meets fmt, with fmt's text TOLD by the authors' own Lean function (tested against real Go, not proved from fmt's source: count such statements apart). THE CARD IS WHAT COUNTS. Prove the row's statement (the work); the ties are given (YtlkeafenklamjaaGreatDoorTie.lean); close each card by the builder's one call (the guide's Derived/Test/ToyasCard.lean, 'card_holds'). Laid BY PROGRAM, IN A SANDBOX (cutbox-door.mjs). By AI agents, Wed Nov 11 2026. No macro, syntax, notation, axiom, sorry.
-/
import Derived.Test.YtlkeafenklamjaaGreatDoorRows
import GoSem.ClaimSeven
namespace Go.Proofs.YtlkeafenklamjaaGreatDoor
namespace Rows

/-- THE TIED CARD OF 'metaprunelaw.CriticalSays'. -/
def criticalSaysCard : Claim7 := { stood := { row := criticalSaysRow, standIns := [], harness := (true, "862d17d949380feaa57c22df71870e07b40a65f18362709fb30342075786a088"), looks := false }, kinds := [], alts := [], laidByText := true, laidKinds := [.data, .data, .data], laidTests := true, laidLooks := .later }
def CriticalSaysCardSaid : Prop := Claim7.holds Tryz.pinned (.plain (OpenSpec.ofChange criticalSaysSpec)) criticalSaysCard

/-- THE SECOND FORM's CARD OF 'metaprunelaw.CriticalSays'. -/
def criticalSaysUptoCard : Claim7 := { stood := { row := criticalSaysUptoRow, standIns := [], harness := (true, "862d17d949380feaa57c22df71870e07b40a65f18362709fb30342075786a088"), looks := false }, kinds := [], alts := [], laidByText := true, laidKinds := [.data, .data, .data], laidTests := true, laidLooks := .later }
def CriticalSaysUptoCardSaid : Prop := Claim7.holds Tryz.pinned (.plain (OpenSpec.upto criticalSaysSpec)) criticalSaysUptoCard
end Rows
end Go.Proofs.YtlkeafenklamjaaGreatDoor
