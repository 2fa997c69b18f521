
/- Walks: numbers out of raw numbers. -/
import Derived.Test.YtnccaligfnmfgaaDoorW9
import Derived.Deep.RegionHeld3
namespace Go.Proofs.YtnccaligfnmfgaaDoor
open Go.RowKit
set_option linter.unusedSimpArgs false
set_option linter.unusedVariables false
set_option maxRecDepth 8000

end Go.Proofs.YtnccaligfnmfgaaDoor
