
/- Walks: the terms of worked rows. -/
import Derived.Test.YtnccaligfnmfgaaDoorCb9s
import Derived.Test.YtnccaligfnmfgaaDoorCb10
namespace Go.Proofs.YtnccaligfnmfgaaDoor
open Go.RowKit
set_option linter.unusedSimpArgs false
set_option linter.unusedVariables false
set_option maxRecDepth 8000

end Go.Proofs.YtnccaligfnmfgaaDoor
