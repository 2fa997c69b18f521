
/- Walks: the row that a term is, as the program says: a closure tells its places. -/
import Derived.Test.YtnccaligfnmfgaaDoorCb4
import Derived.Laws.EntriesVeiled
import Derived.Laws.OwnMore
namespace Go.Proofs.YtnccaligfnmfgaaDoor
open Go.RowKit
set_option linter.unusedSimpArgs false
set_option linter.unusedVariables false
set_option maxRecDepth 8000

end Go.Proofs.YtnccaligfnmfgaaDoor
