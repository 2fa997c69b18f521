/-
  DERIVED. GIVEN WITH THE SEED: THE CARDS: each row of YtcdabjekppddjaaGreatDoorRows.lean that lists a variable, with what it lists TIED to the program's text (the seventh form; the later family's looks); each row that meets fmt, with fmt's text TOLD by the authors' own Lean function (tested against real Go, not proved from fmt's source: count such statements apart). THE CARD IS WHAT COUNTS. Prove the row's statement (the work); the ties are given (YtcdabjekppddjaaGreatDoorTie.lean); close each card by the builder's one call (the guide's Derived/Test/ToyasCard.lean, 'card_holds'). Laid BY PROGRAM, IN A SANDBOX (cutbox-door.mjs). By AI agents, Wed Nov 11 2026. No macro, syntax, notation, axiom, sorry.
-/
import Derived.Test.YtcdabjekppddjaaGreatDoorRows
import GoSem.ClaimSeven
namespace Go.Proofs.YtcdabjekppddjaaGreatDoor
namespace Rows

/-- THE TIED CARD OF 'metaprunelaw.CombSays'. -/
def combSaysCard : Claim7 := { stood := { row := combSaysRow, standIns := [], harness := (true, "7757d1f3036c01ea1fe5d62e269ec11f1883646b4e41256c2efb516ccba98635"), looks := true }, kinds := [], alts := [], laidByText := true, laidKinds := [.data, .data, .data, .sentinel, .sentinel], laidTests := true, laidLooks := .later }
def CombSaysCardSaid : Prop := Claim7.holds Tryz.pinned (.plain (OpenSpec.ofChange combSaysSpec)) combSaysCard

/-- THE TIED CARD OF 'metaprunelaw.CombMade'. -/
def combMadeCard : Claim7 := { stood := { row := combMadeRow, standIns := [], harness := (true, "7757d1f3036c01ea1fe5d62e269ec11f1883646b4e41256c2efb516ccba98635"), looks := true }, kinds := [], alts := [], laidByText := true, laidKinds := [.data, .data, .data, .sentinel, .sentinel], laidTests := true, laidLooks := .later }
def CombMadeCardSaid : Prop := Claim7.holds Tryz.pinned (.plain (OpenSpec.ofChange combMadeSpec)) combMadeCard

/-- THE SECOND FORM's CARD OF 'metaprunelaw.CombSays'. -/
def combSaysUptoCard : Claim7 := { stood := { row := combSaysUptoRow, standIns := [], harness := (true, "7757d1f3036c01ea1fe5d62e269ec11f1883646b4e41256c2efb516ccba98635"), looks := true }, kinds := [], alts := [], laidByText := true, laidKinds := [.data, .data, .data, .sentinel, .sentinel], laidTests := true, laidLooks := .later }
def CombSaysUptoCardSaid : Prop := Claim7.holds Tryz.pinned (.plain (OpenSpec.upto combSaysSpec)) combSaysUptoCard

/-- THE SECOND FORM's CARD OF 'metaprunelaw.CombMade'. -/
def combMadeUptoCard : Claim7 := { stood := { row := combMadeUptoRow, standIns := [], harness := (true, "7757d1f3036c01ea1fe5d62e269ec11f1883646b4e41256c2efb516ccba98635"), looks := true }, kinds := [], alts := [], laidByText := true, laidKinds := [.data, .data, .data, .sentinel, .sentinel], laidTests := true, laidLooks := .later }
def CombMadeUptoCardSaid : Prop := Claim7.holds Tryz.pinned (.plain (OpenSpec.upto combMadeSpec)) combMadeUptoCard
end Rows
end Go.Proofs.YtcdabjekppddjaaGreatDoor
