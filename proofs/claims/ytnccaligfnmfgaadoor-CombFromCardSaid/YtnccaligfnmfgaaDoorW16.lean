
/- Walks: lists that are the same; whether a text is in a list. -/
import Derived.Test.YtnccaligfnmfgaaDoorRows
import Derived.Test.YtnccaligfnmfgaaDoorL
import Derived.Test.YtnccaligfnmfgaaDoorZCombFromOwn
import Derived.BigQuiet
namespace Go.Proofs.YtnccaligfnmfgaaDoor
open Go.RowKit
set_option linter.unusedSimpArgs false
set_option linter.unusedVariables false

end Go.Proofs.YtnccaligfnmfgaaDoor
