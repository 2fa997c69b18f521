/-
  DERIVED. GIVEN WITH THE SEED: THE CARDS: each row of YtakmclheffbeaaaDoorRows.lean that lists a variable, with what it lists TIED to the program's text (the seventh form; the later family's looks); each row that meets fmt, with fmt's text TOLD by the authors' own Lean function (tested against real Go, not proved from fmt's source: count such statements apart). THE CARD IS WHAT COUNTS. Prove the row's statement (the work); the ties are given (YtakmclheffbeaaaDoorTie.lean); close each card by the builder's one call (the guide's Derived/Test/ToyasCard.lean, 'card_holds'). Laid BY PROGRAM, IN A SANDBOX (cutbox-door.mjs). By AI agents, Wed Nov 11 2026. No macro, syntax, notation, axiom, sorry.
-/
import Derived.Test.YtakmclheffbeaaaDoorRows
import GoSem.ClaimSeven
namespace Go.Proofs.YtakmclheffbeaaaDoor
namespace Rows

/-- THE TIED CARD OF 'metaprunelaw.GeneralSays'. -/
def generalSaysCard : Claim7 := { stood := { row := generalSaysRow, standIns := [], harness := (true, "66834d54f00078413ea496d21b0cb8bc48b604f794eea1eb0d6cf31cea890d50"), looks := false }, kinds := [], alts := [], laidByText := true, laidKinds := [.data, .data, .data], laidTests := true, laidLooks := .later }
def GeneralSaysCardSaid : Prop := Claim7.holds Tryd.pinned (.plain (OpenSpec.ofChange generalSaysSpec)) generalSaysCard

/-- THE TIED CARD OF 'metaprunelaw.GeneralMade'. -/
def generalMadeCard : Claim7 := { stood := { row := generalMadeRow, standIns := [], harness := (true, "66834d54f00078413ea496d21b0cb8bc48b604f794eea1eb0d6cf31cea890d50"), looks := false }, kinds := [], alts := [], laidByText := true, laidKinds := [.data, .data, .data], laidTests := true, laidLooks := .later }
def GeneralMadeCardSaid : Prop := Claim7.holds Tryd.pinned (.plain (OpenSpec.ofChange generalMadeSpec)) generalMadeCard

/-- THE SECOND FORM's CARD OF 'metaprunelaw.GeneralSays'. -/
def generalSaysUptoCard : Claim7 := { stood := { row := generalSaysUptoRow, standIns := [], harness := (true, "66834d54f00078413ea496d21b0cb8bc48b604f794eea1eb0d6cf31cea890d50"), looks := false }, kinds := [], alts := [], laidByText := true, laidKinds := [.data, .data, .data], laidTests := true, laidLooks := .later }
def GeneralSaysUptoCardSaid : Prop := Claim7.holds Tryd.pinned (.plain (OpenSpec.upto generalSaysSpec)) generalSaysUptoCard

/-- THE SECOND FORM's CARD OF 'metaprunelaw.GeneralMade'. -/
def generalMadeUptoCard : Claim7 := { stood := { row := generalMadeUptoRow, standIns := [], harness := (true, "66834d54f00078413ea496d21b0cb8bc48b604f794eea1eb0d6cf31cea890d50"), looks := false }, kinds := [], alts := [], laidByText := true, laidKinds := [.data, .data, .data], laidTests := true, laidLooks := .later }
def GeneralMadeUptoCardSaid : Prop := Claim7.holds Tryd.pinned (.plain (OpenSpec.upto generalMadeSpec)) generalMadeUptoCard
end Rows
end Go.Proofs.YtakmclheffbeaaaDoor
