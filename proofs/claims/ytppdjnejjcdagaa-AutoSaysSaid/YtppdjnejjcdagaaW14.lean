
/- Walks: Put, and the law on it. -/
import Derived.Test.YtppdjnejjcdagaaW13
import Derived.Test.YtppdjnejjcdagaaW12
import Derived.Test.YtppdjnejjcdagaaW11
namespace Go.Proofs.Ytppdjnejjcdagaa
open Go.RowKit
set_option linter.unusedSimpArgs false
set_option linter.unusedVariables false
set_option maxRecDepth 8000

end Go.Proofs.Ytppdjnejjcdagaa
