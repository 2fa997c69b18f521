
/- Walks: what s makes of a row, at the third place. -/
import Derived.Test.YtnccaligfnmfgaaDoorCb9
namespace Go.Proofs.YtnccaligfnmfgaaDoor
open Go.RowKit
set_option linter.unusedSimpArgs false
set_option linter.unusedVariables false
set_option maxRecDepth 8000

end Go.Proofs.YtnccaligfnmfgaaDoor
