
/- The library's Clone at rows of terms. -/
import Derived.Test.YtglcijkhlppjfaaDoorShelf
import Derived.Test.YtglcijkhlppjfaaDoorZTopPlotkinOwn
import Derived.Ground.SlgnProg
import Derived.Shelf.SlicesE.Clone
namespace Go.Proofs.YtglcijkhlppjfaaDoor
open Go.RowKit Go.Shelf
set_option linter.unusedSimpArgs false
set_option linter.unusedVariables false
set_option maxRecDepth 8000

end Go.Proofs.YtglcijkhlppjfaaDoor
