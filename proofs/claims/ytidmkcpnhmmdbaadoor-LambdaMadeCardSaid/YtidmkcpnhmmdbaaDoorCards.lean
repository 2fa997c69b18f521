/-
  DERIVED. GIVEN WITH THE SEED: THE CARDS: each row of YtidmkcpnhmmdbaaDoorRows.lean that lists a variable, with what it lists TIED to the program's text (the seventh form; the later family's looks); each row that meets fmt, with fmt's text TOLD by the authors' own Lean function (tested against real Go, not proved from fmt's source: count such statements apart). THE CARD IS WHAT COUNTS. Prove the row's statement (the work); the ties are given (YtidmkcpnhmmdbaaDoorTie.lean); close each card by the builder's one call (the guide's Derived/Test/ToyasCard.lean, 'card_holds'). Laid BY PROGRAM, IN A SANDBOX (cutbox-door.mjs). By AI agents, Wed Nov 11 2026. No macro, syntax, notation, axiom, sorry.
-/
import Derived.Test.YtidmkcpnhmmdbaaDoorRows
import GoSem.ClaimSeven
namespace Go.Proofs.YtidmkcpnhmmdbaaDoor
namespace Rows

/-- THE TIED CARD OF 'metaprunelaw.LambdaMade'. -/
def lambdaMadeCard : Claim7 := { stood := { row := lambdaMadeRow, standIns := [], harness := (true, "ec35586f05f7dc2678e55f20bfb33ac73d98ec6f4ffa81ae403214e27a6846dc"), looks := false }, kinds := [], alts := [], laidByText := true, laidKinds := [.data, .data, .data], laidTests := true, laidLooks := .later }
def LambdaMadeCardSaid : Prop := Claim7.holds Tryd.pinned (.plain (OpenSpec.ofChange lambdaMadeSpec)) lambdaMadeCard

/-- THE SECOND FORM's CARD OF 'metaprunelaw.LambdaMade'. -/
def lambdaMadeUptoCard : Claim7 := { stood := { row := lambdaMadeUptoRow, standIns := [], harness := (true, "ec35586f05f7dc2678e55f20bfb33ac73d98ec6f4ffa81ae403214e27a6846dc"), looks := false }, kinds := [], alts := [], laidByText := true, laidKinds := [.data, .data, .data], laidTests := true, laidLooks := .later }
def LambdaMadeUptoCardSaid : Prop := Claim7.holds Tryd.pinned (.plain (OpenSpec.upto lambdaMadeSpec)) lambdaMadeUptoCard
end Rows
end Go.Proofs.YtidmkcpnhmmdbaaDoor
