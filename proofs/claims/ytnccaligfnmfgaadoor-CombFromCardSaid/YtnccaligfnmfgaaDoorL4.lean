
/- Walks: what is bound from outside is moved, as the document says. -/
import Derived.Test.YtnccaligfnmfgaaDoorLp
import Derived.Test.YtnccaligfnmfgaaDoorLb
namespace Go.Proofs.YtnccaligfnmfgaaDoor
open Go.RowKit
set_option linter.unusedSimpArgs false
set_option linter.unusedVariables false
set_option maxRecDepth 8000

end Go.Proofs.YtnccaligfnmfgaaDoor
