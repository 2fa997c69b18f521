
/- Walks: matching, comparing up to names and searching for an instance, as the document says. -/
import Derived.Test.YtakmclheffbeaaaDoorW92
namespace Go.Proofs.YtakmclheffbeaaaDoor
open Go.RowKit
set_option linter.unusedSimpArgs false
set_option linter.unusedVariables false
set_option maxRecDepth 8000

/-- One is a case of the other. -/
def mtB (p t : Tm) : Bool := (mtT p t []).isSome
end Go.Proofs.YtakmclheffbeaaaDoor
