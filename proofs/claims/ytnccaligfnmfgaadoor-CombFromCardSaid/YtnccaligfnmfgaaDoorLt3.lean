
/- Walks: names from outside, by the program and by the document. -/
import Derived.Test.YtnccaligfnmfgaaDoorLt2
namespace Go.Proofs.YtnccaligfnmfgaaDoor
open Go.RowKit
set_option linter.unusedSimpArgs false
set_option linter.unusedVariables false
set_option maxRecDepth 8000

end Go.Proofs.YtnccaligfnmfgaaDoor
