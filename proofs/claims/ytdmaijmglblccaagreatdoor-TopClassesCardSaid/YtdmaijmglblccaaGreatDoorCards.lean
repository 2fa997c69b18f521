/-
  DERIVED. GIVEN WITH THE SEED: THE CARDS: each row of YtdmaijmglblccaaGreatDoorRows.lean that lists a variable, with what it lists TIED to the program's text (the seventh form; the later family's looks); each row that meets fmt, with fmt's text TOLD by the authors' own Lean function (tested against real Go, not proved from fmt's source: count such statements apart). THE CARD IS WHAT COUNTS. Prove the row's statement (the work); the ties are given (YtdmaijmglblccaaGreatDoorTie.lean); close each card by the builder's one call (the guide's Derived/Test/ToyasCard.lean, 'card_holds'). Laid BY PROGRAM, IN A SANDBOX (cutbox-door.mjs). By AI agents, Wed Nov 11 2026. No macro, syntax, notation, axiom, sorry.
-/
import Derived.Test.YtdmaijmglblccaaGreatDoorRows
import GoSem.ClaimSeven
namespace Go.Proofs.YtdmaijmglblccaaGreatDoor
namespace Rows

/-- THE TIED CARD OF 'metaprunelaw.ClosureSays'. -/
def closureSaysCard : Claim7 := { stood := { row := closureSaysRow, standIns := [], harness := (true, "feeb84db1d155142db1ec73d10b67a963a5fcb0281a7d1b6d7f68a93c14e1d90"), looks := true }, kinds := [], alts := [], laidByText := true, laidKinds := [.data, .data, .data], laidTests := true, laidLooks := .later }
def ClosureSaysCardSaid : Prop := Claim7.holds Tryz.pinned (.plain (OpenSpec.ofChange closureSaysSpec)) closureSaysCard

/-- THE TIED CARD OF 'metaprunelaw.ClosureMade'. -/
def closureMadeCard : Claim7 := { stood := { row := closureMadeRow, standIns := [], harness := (true, "feeb84db1d155142db1ec73d10b67a963a5fcb0281a7d1b6d7f68a93c14e1d90"), looks := true }, kinds := [], alts := [], laidByText := true, laidKinds := [.data, .data, .data], laidTests := true, laidLooks := .later }
def ClosureMadeCardSaid : Prop := Claim7.holds Tryz.pinned (.plain (OpenSpec.ofChange closureMadeSpec)) closureMadeCard

/-- THE TIED CARD OF 'metaprunetop.TopClasses'. -/
def topClassesCard : Claim7 := { stood := { row := topClassesRow, standIns := [], harness := (true, "feeb84db1d155142db1ec73d10b67a963a5fcb0281a7d1b6d7f68a93c14e1d90"), looks := true }, kinds := [], alts := [], laidByText := true, laidKinds := [.data, .data, .data], laidTests := true, laidLooks := .later }
def TopClassesCardSaid : Prop := Claim7.holds Tryz.pinned (.plain (OpenSpec.ofChange topClassesSpec)) topClassesCard

/-- THE SECOND FORM's CARD OF 'metaprunelaw.ClosureSays'. -/
def closureSaysUptoCard : Claim7 := { stood := { row := closureSaysUptoRow, standIns := [], harness := (true, "feeb84db1d155142db1ec73d10b67a963a5fcb0281a7d1b6d7f68a93c14e1d90"), looks := true }, kinds := [], alts := [], laidByText := true, laidKinds := [.data, .data, .data], laidTests := true, laidLooks := .later }
def ClosureSaysUptoCardSaid : Prop := Claim7.holds Tryz.pinned (.plain (OpenSpec.upto closureSaysSpec)) closureSaysUptoCard

/-- THE SECOND FORM's CARD OF 'metaprunelaw.ClosureMade'. -/
def closureMadeUptoCard : Claim7 := { stood := { row := closureMadeUptoRow, standIns := [], harness := (true, "feeb84db1d155142db1ec73d10b67a963a5fcb0281a7d1b6d7f68a93c14e1d90"), looks := true }, kinds := [], alts := [], laidByText := true, laidKinds := [.data, .data, .data], laidTests := true, laidLooks := .later }
def ClosureMadeUptoCardSaid : Prop := Claim7.holds Tryz.pinned (.plain (OpenSpec.upto closureMadeSpec)) closureMadeUptoCard

/-- THE SECOND FORM's CARD OF 'metaprunetop.TopClasses'. -/
def topClassesUptoCard : Claim7 := { stood := { row := topClassesUptoRow, standIns := [], harness := (true, "feeb84db1d155142db1ec73d10b67a963a5fcb0281a7d1b6d7f68a93c14e1d90"), looks := true }, kinds := [], alts := [], laidByText := true, laidKinds := [.data, .data, .data], laidTests := true, laidLooks := .later }
def TopClassesUptoCardSaid : Prop := Claim7.holds Tryz.pinned (.plain (OpenSpec.upto topClassesSpec)) topClassesUptoCard
end Rows
end Go.Proofs.YtdmaijmglblccaaGreatDoor
