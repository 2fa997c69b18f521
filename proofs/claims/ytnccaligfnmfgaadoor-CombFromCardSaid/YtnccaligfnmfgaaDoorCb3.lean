
/- Walks: whether the program finds all put together by ap. -/
import Derived.Test.YtnccaligfnmfgaaDoorCb2
namespace Go.Proofs.YtnccaligfnmfgaaDoor
open Go.RowKit
set_option linter.unusedSimpArgs false
set_option linter.unusedVariables false
set_option maxRecDepth 8000

end Go.Proofs.YtnccaligfnmfgaaDoor
