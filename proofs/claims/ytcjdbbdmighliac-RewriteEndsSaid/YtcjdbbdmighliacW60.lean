
/- Walks: what lies below a knot is filled. -/
import Derived.Test.YtcjdbbdmighliacW59
namespace Go.Proofs.Ytcjdbbdmighliac
open Go.RowKit
set_option linter.unusedSimpArgs false
set_option linter.unusedVariables false
set_option maxRecDepth 8000

theorem fL_map (ls : List Bd) : ∀ l : List Tm, fL ls l = l.map (fT ls)
  | [] => by simp [fL]
  | ⟨s, a⟩ :: r => by rw [fL, fL_map ls r]; rfl

end Go.Proofs.Ytcjdbbdmighliac
