
/- Walks: Either. -/
import Derived.Test.YtppdjnejjcdagaaAu8
namespace Go.Proofs.Ytppdjnejjcdagaa
open Go.RowKit
set_option linter.unusedSimpArgs false
set_option linter.unusedVariables false
set_option maxRecDepth 8000

end Go.Proofs.Ytppdjnejjcdagaa
