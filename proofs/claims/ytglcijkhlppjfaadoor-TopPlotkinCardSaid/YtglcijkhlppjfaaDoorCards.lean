/-
  DERIVED. GIVEN WITH THE SEED: THE CARDS: each row of YtglcijkhlppjfaaDoorRows.lean that lists a variable, with what it lists TIED to the program's text (the seventh form; the later family's looks); each row that meets fmt, with fmt's text TOLD by the authors' own Lean function (tested against real Go, not proved from fmt's source: count such statements apart). THE CARD IS WHAT COUNTS. Prove the row's statement (the work); the ties are given (YtglcijkhlppjfaaDoorTie.lean); close each card by the builder's one call (the guide's Derived/Test/ToyasCard.lean, 'card_holds'). Laid BY PROGRAM, IN A SANDBOX (cutbox-door.mjs). By AI agents, Wed Nov 11 2026. No macro, syntax, notation, axiom, sorry.
-/
import Derived.Test.YtglcijkhlppjfaaDoorRows
import GoSem.ClaimSeven
namespace Go.Proofs.YtglcijkhlppjfaaDoor
namespace Rows

/-- THE TIED CARD OF 'metaprunetop.TopPlotkin'. -/
def topPlotkinCard : Claim7 := { stood := { row := topPlotkinRow, standIns := [], harness := (true, "fc3edf80475c9e5da84597b8deb7a80f2b95cf61ea7f1d6f0a74b090f1d18866"), looks := false }, kinds := [], alts := [], laidByText := true, laidKinds := [.data, .data, .data], laidTests := true, laidLooks := .later }
def TopPlotkinCardSaid : Prop := Claim7.holds Tryd.pinned (.plain (OpenSpec.ofChange topPlotkinSpec)) topPlotkinCard

/-- THE SECOND FORM's CARD OF 'metaprunetop.TopPlotkin'. -/
def topPlotkinUptoCard : Claim7 := { stood := { row := topPlotkinUptoRow, standIns := [], harness := (true, "fc3edf80475c9e5da84597b8deb7a80f2b95cf61ea7f1d6f0a74b090f1d18866"), looks := false }, kinds := [], alts := [], laidByText := true, laidKinds := [.data, .data, .data], laidTests := true, laidLooks := .later }
def TopPlotkinUptoCardSaid : Prop := Claim7.holds Tryd.pinned (.plain (OpenSpec.upto topPlotkinSpec)) topPlotkinUptoCard
end Rows
end Go.Proofs.YtglcijkhlppjfaaDoor
