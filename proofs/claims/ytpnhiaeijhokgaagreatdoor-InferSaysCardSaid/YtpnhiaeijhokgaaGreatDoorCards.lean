/-
  DERIVED. GIVEN WITH THE SEED: THE CARDS: each row of YtpnhiaeijhokgaaGreatDoorRows.lean that lists a variable, with what it lists TIED to the program's text (the seventh form; the later family's looks); each row that meets fmt, with fmt's text TOLD by the authors' own Lean function (tested against real Go, not proved from fmt's source: count such statements apart). THE CARD IS WHAT COUNTS. Prove the row's statement (the work); the ties are given (YtpnhiaeijhokgaaGreatDoorTie.lean); close each card by the builder's one call (the guide's Derived/Test/ToyasCard.lean, 'card_holds'). Laid BY PROGRAM, IN A SANDBOX (cutbox-door.mjs). By AI agents, Wed Nov 11 2026. No macro, syntax, notation, axiom, sorry.
-/
import Derived.Test.YtpnhiaeijhokgaaGreatDoorRows
import GoSem.ClaimSeven
namespace Go.Proofs.YtpnhiaeijhokgaaGreatDoor
namespace Rows

/-- THE TIED CARD OF 'metaprunelaw.InferSays'. -/
def inferSaysCard : Claim7 := { stood := { row := inferSaysRow, standIns := [], harness := (true, "5926bff03705b93b6ebdbb254d06a6244ce4d0c51b3440172becbc29572b4df8"), looks := false }, kinds := [], alts := [], laidByText := true, laidKinds := [.data, .data, .data], laidTests := true, laidLooks := .later }
def InferSaysCardSaid : Prop := Claim7.holds Tryz.pinned (.plain (OpenSpec.ofChange inferSaysSpec)) inferSaysCard

/-- THE SECOND FORM's CARD OF 'metaprunelaw.InferSays'. -/
def inferSaysUptoCard : Claim7 := { stood := { row := inferSaysUptoRow, standIns := [], harness := (true, "5926bff03705b93b6ebdbb254d06a6244ce4d0c51b3440172becbc29572b4df8"), looks := false }, kinds := [], alts := [], laidByText := true, laidKinds := [.data, .data, .data], laidTests := true, laidLooks := .later }
def InferSaysUptoCardSaid : Prop := Claim7.holds Tryz.pinned (.plain (OpenSpec.upto inferSaysSpec)) inferSaysUptoCard
end Rows
end Go.Proofs.YtpnhiaeijhokgaaGreatDoor
