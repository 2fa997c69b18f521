/-
  DERIVED. GIVEN WITH THE SEED: THE CARDS: each row of YtnccaligfnmfgaaDoorRows.lean that lists a variable, with what it lists TIED to the program's text (the seventh form; the later family's looks); each row that meets fmt, with fmt's text TOLD by the authors' own Lean function (tested against real Go, not proved from fmt's source: count such statements apart). THE CARD IS WHAT COUNTS. Prove the row's statement (the work); the ties are given (YtnccaligfnmfgaaDoorTie.lean); close each card by the builder's one call (the guide's Derived/Test/ToyasCard.lean, 'card_holds'). Laid BY PROGRAM, IN A SANDBOX (cutbox-door.mjs). By AI agents, Wed Nov 11 2026. No macro, syntax, notation, axiom, sorry.
-/
import Derived.Test.YtnccaligfnmfgaaDoorRows
import GoSem.ClaimSeven
namespace Go.Proofs.YtnccaligfnmfgaaDoor
namespace Rows

/-- THE TIED CARD OF 'metaprunelaw.CombFrom'. -/
def combFromCard : Claim7 := { stood := { row := combFromRow, standIns := [], harness := (true, "143efc942799304d271154f05d67e19dcfbba5d61fb2045752c9abf53e7e135b"), looks := false }, kinds := [], alts := [], laidByText := true, laidKinds := [.data, .data, .data], laidTests := true, laidLooks := .later }
def CombFromCardSaid : Prop := Claim7.holds Tryd.pinned (.plain (OpenSpec.ofChange combFromSpec)) combFromCard

/-- THE SECOND FORM's CARD OF 'metaprunelaw.CombFrom'. -/
def combFromUptoCard : Claim7 := { stood := { row := combFromUptoRow, standIns := [], harness := (true, "143efc942799304d271154f05d67e19dcfbba5d61fb2045752c9abf53e7e135b"), looks := false }, kinds := [], alts := [], laidByText := true, laidKinds := [.data, .data, .data], laidTests := true, laidLooks := .later }
def CombFromUptoCardSaid : Prop := Claim7.holds Tryd.pinned (.plain (OpenSpec.upto combFromSpec)) combFromUptoCard
end Rows
end Go.Proofs.YtnccaligfnmfgaaDoor
