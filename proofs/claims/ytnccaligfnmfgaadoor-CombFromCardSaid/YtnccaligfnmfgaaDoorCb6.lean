
/- Walks: where steps end, as the document says. -/
import Derived.Test.YtnccaligfnmfgaaDoorCb5
namespace Go.Proofs.YtnccaligfnmfgaaDoor
open Go.RowKit
set_option linter.unusedSimpArgs false
set_option linter.unusedVariables false
set_option maxRecDepth 8000

end Go.Proofs.YtnccaligfnmfgaaDoor
