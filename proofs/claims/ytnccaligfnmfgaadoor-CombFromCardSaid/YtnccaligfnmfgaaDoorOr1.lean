/- Which term is above another one, by paths and by weights: plain. -/
import Derived.Test.YtnccaligfnmfgaaDoorZCombFromOwn
import Derived.Test.YtnccaligfnmfgaaDoorSrt
namespace Go.Proofs.YtnccaligfnmfgaaDoor
open Go.RowKit
set_option linter.unusedSimpArgs false
set_option linter.unusedVariables false

end Go.Proofs.YtnccaligfnmfgaaDoor
