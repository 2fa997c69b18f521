/-
  DERIVED. GIVEN WITH THE SEED: THE CARDS: each row of YtfbligcampbchaaDoorRows.lean that lists a variable, with what it lists TIED to the program's text (the seventh form; the later family's looks); each row that meets fmt, with fmt's text TOLD by the authors' own Lean function (tested against real Go, not proved from fmt's source: count such statements apart). THE CARD IS WHAT COUNTS. Prove the row's statement (the work); the ties are given (YtfbligcampbchaaDoorTie.lean); close each card by the builder's one call (the guide's Derived/Test/ToyasCard.lean, 'card_holds'). Laid BY PROGRAM, IN A SANDBOX (cutbox-door.mjs). By AI agents, Wed Nov 11 2026. No macro, syntax, notation, axiom, sorry.
-/
import Derived.Test.YtfbligcampbchaaDoorRows
import GoSem.ClaimSeven
namespace Go.Proofs.YtfbligcampbchaaDoor
namespace Rows

/-- THE TIED CARD OF 'metaprunelaw.LambdaSays'. -/
def lambdaSaysCard : Claim7 := { stood := { row := lambdaSaysRow, standIns := [], harness := (true, "e98d44be379d9470bcc4c1de22f870201f32b64adeb8f29c2c533ebde5c06983"), looks := true }, kinds := [], alts := [], laidByText := true, laidKinds := [.data, .data, .data], laidTests := true, laidLooks := .later }
def LambdaSaysCardSaid : Prop := Claim7.holds Tryd.pinned (.plain (OpenSpec.ofChange lambdaSaysSpec)) lambdaSaysCard

/-- THE TIED CARD OF 'metaprunelaw.LambdaMade'. -/
def lambdaMadeCard : Claim7 := { stood := { row := lambdaMadeRow, standIns := [], harness := (true, "e98d44be379d9470bcc4c1de22f870201f32b64adeb8f29c2c533ebde5c06983"), looks := true }, kinds := [], alts := [], laidByText := true, laidKinds := [.data, .data, .data], laidTests := true, laidLooks := .later }
def LambdaMadeCardSaid : Prop := Claim7.holds Tryd.pinned (.plain (OpenSpec.ofChange lambdaMadeSpec)) lambdaMadeCard

/-- THE TIED CARD OF 'metaprunetop.TopNames'. -/
def topNamesCard : Claim7 := { stood := { row := topNamesRow, standIns := [], harness := (true, "e98d44be379d9470bcc4c1de22f870201f32b64adeb8f29c2c533ebde5c06983"), looks := true }, kinds := [], alts := [], laidByText := true, laidKinds := [.data, .data, .data, .sentinel, .sentinel], laidTests := true, laidLooks := .later }
def TopNamesCardSaid : Prop := Claim7.holds Tryd.pinned (.plain (OpenSpec.ofChange topNamesSpec)) topNamesCard

/-- THE SECOND FORM's CARD OF 'metaprunelaw.LambdaSays'. -/
def lambdaSaysUptoCard : Claim7 := { stood := { row := lambdaSaysUptoRow, standIns := [], harness := (true, "e98d44be379d9470bcc4c1de22f870201f32b64adeb8f29c2c533ebde5c06983"), looks := true }, kinds := [], alts := [], laidByText := true, laidKinds := [.data, .data, .data], laidTests := true, laidLooks := .later }
def LambdaSaysUptoCardSaid : Prop := Claim7.holds Tryd.pinned (.plain (OpenSpec.upto lambdaSaysSpec)) lambdaSaysUptoCard

/-- THE SECOND FORM's CARD OF 'metaprunelaw.LambdaMade'. -/
def lambdaMadeUptoCard : Claim7 := { stood := { row := lambdaMadeUptoRow, standIns := [], harness := (true, "e98d44be379d9470bcc4c1de22f870201f32b64adeb8f29c2c533ebde5c06983"), looks := true }, kinds := [], alts := [], laidByText := true, laidKinds := [.data, .data, .data], laidTests := true, laidLooks := .later }
def LambdaMadeUptoCardSaid : Prop := Claim7.holds Tryd.pinned (.plain (OpenSpec.upto lambdaMadeSpec)) lambdaMadeUptoCard

/-- THE SECOND FORM's CARD OF 'metaprunetop.TopNames'. -/
def topNamesUptoCard : Claim7 := { stood := { row := topNamesUptoRow, standIns := [], harness := (true, "e98d44be379d9470bcc4c1de22f870201f32b64adeb8f29c2c533ebde5c06983"), looks := true }, kinds := [], alts := [], laidByText := true, laidKinds := [.data, .data, .data, .sentinel, .sentinel], laidTests := true, laidLooks := .later }
def TopNamesUptoCardSaid : Prop := Claim7.holds Tryd.pinned (.plain (OpenSpec.upto topNamesSpec)) topNamesUptoCard
end Rows
end Go.Proofs.YtfbligcampbchaaDoor
