/-
  DERIVED. GIVEN WITH THE SEED: THE CARDS: each row of YtlcbpfeeafibmaaGreatDoorRows.lean that lists a variable, with what it lists TIED to the program's text (the seventh form; the later family's looks); each row that meets fmt, with fmt's text TOLD by the authors' own Lean function (tested against real Go, not proved from fmt's source: count such statements apart). THE CARD IS WHAT COUNTS. Prove the row's statement (the work); the ties are given (YtlcbpfeeafibmaaGreatDoorTie.lean); close each card by the builder's one call (the guide's Derived/Test/ToyasCard.lean, 'card_holds'). Laid BY PROGRAM, IN A SANDBOX (cutbox-door.mjs). By AI agents, Wed Nov 11 2026. No macro, syntax, notation, axiom, sorry.
-/
import Derived.Test.YtlcbpfeeafibmaaGreatDoorRows
import GoSem.ClaimSeven
namespace Go.Proofs.YtlcbpfeeafibmaaGreatDoor
namespace Rows

/-- THE TIED CARD OF 'metaprunetop.TopSubstitution'. -/
def topSubstitutionCard : Claim7 := { stood := { row := topSubstitutionRow, standIns := [], harness := (true, "adb3ca627c9cccba5787dca3a235f8e9a9d815be2b4440b35713ee3e1ac302ec"), looks := true }, kinds := [], alts := [], laidByText := true, laidKinds := [.data, .data, .data, .sentinel, .sentinel], laidTests := true, laidLooks := .later }
def TopSubstitutionCardSaid : Prop := Claim7.holds Tryz.pinned (.plain (OpenSpec.ofChange topSubstitutionSpec)) topSubstitutionCard

/-- THE TIED CARD OF 'metaprunetop.TopTakahashi'. -/
def topTakahashiCard : Claim7 := { stood := { row := topTakahashiRow, standIns := [], harness := (true, "adb3ca627c9cccba5787dca3a235f8e9a9d815be2b4440b35713ee3e1ac302ec"), looks := true }, kinds := [], alts := [], laidByText := true, laidKinds := [.data, .data, .data, .sentinel, .sentinel], laidTests := true, laidLooks := .later }
def TopTakahashiCardSaid : Prop := Claim7.holds Tryz.pinned (.plain (OpenSpec.ofChange topTakahashiSpec)) topTakahashiCard

/-- THE TIED CARD OF 'metaprunetop.TopChurch'. -/
def topChurchCard : Claim7 := { stood := { row := topChurchRow, standIns := [], harness := (true, "adb3ca627c9cccba5787dca3a235f8e9a9d815be2b4440b35713ee3e1ac302ec"), looks := true }, kinds := [], alts := [], laidByText := true, laidKinds := [.data, .data, .data, .sentinel, .sentinel], laidTests := true, laidLooks := .later }
def TopChurchCardSaid : Prop := Claim7.holds Tryz.pinned (.plain (OpenSpec.ofChange topChurchSpec)) topChurchCard

/-- THE SECOND FORM's CARD OF 'metaprunetop.TopSubstitution'. -/
def topSubstitutionUptoCard : Claim7 := { stood := { row := topSubstitutionUptoRow, standIns := [], harness := (true, "adb3ca627c9cccba5787dca3a235f8e9a9d815be2b4440b35713ee3e1ac302ec"), looks := true }, kinds := [], alts := [], laidByText := true, laidKinds := [.data, .data, .data, .sentinel, .sentinel], laidTests := true, laidLooks := .later }
def TopSubstitutionUptoCardSaid : Prop := Claim7.holds Tryz.pinned (.plain (OpenSpec.upto topSubstitutionSpec)) topSubstitutionUptoCard

/-- THE SECOND FORM's CARD OF 'metaprunetop.TopTakahashi'. -/
def topTakahashiUptoCard : Claim7 := { stood := { row := topTakahashiUptoRow, standIns := [], harness := (true, "adb3ca627c9cccba5787dca3a235f8e9a9d815be2b4440b35713ee3e1ac302ec"), looks := true }, kinds := [], alts := [], laidByText := true, laidKinds := [.data, .data, .data, .sentinel, .sentinel], laidTests := true, laidLooks := .later }
def TopTakahashiUptoCardSaid : Prop := Claim7.holds Tryz.pinned (.plain (OpenSpec.upto topTakahashiSpec)) topTakahashiUptoCard

/-- THE SECOND FORM's CARD OF 'metaprunetop.TopChurch'. -/
def topChurchUptoCard : Claim7 := { stood := { row := topChurchUptoRow, standIns := [], harness := (true, "adb3ca627c9cccba5787dca3a235f8e9a9d815be2b4440b35713ee3e1ac302ec"), looks := true }, kinds := [], alts := [], laidByText := true, laidKinds := [.data, .data, .data, .sentinel, .sentinel], laidTests := true, laidLooks := .later }
def TopChurchUptoCardSaid : Prop := Claim7.holds Tryz.pinned (.plain (OpenSpec.upto topChurchSpec)) topChurchUptoCard
end Rows
end Go.Proofs.YtlcbpfeeafibmaaGreatDoor
