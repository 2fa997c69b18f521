/- The order by paths is a strict order, with all below below, kept by bindings and by what is around, and total without variables: plain. -/
import Derived.Test.YtdmaijmglblccaaGreatDoorOr4
namespace Go.Proofs.YtdmaijmglblccaaGreatDoor
open Go.RowKit
set_option linter.unusedSimpArgs false
set_option linter.unusedVariables false

theorem size_one {s : ByteArray} {l : List Tm} : sizeL [(⟨s, l⟩ : Tm)] = 1 + sizeL l := by simp [sizeL]

/-- No variable anywhere. -/
def grd (t : Tm) : Prop := ∀ k ∈ preL [t], varB k.name = false
end Go.Proofs.YtdmaijmglblccaaGreatDoor
