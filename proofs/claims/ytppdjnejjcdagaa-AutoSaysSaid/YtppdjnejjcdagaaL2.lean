
/- Walks: may a lambda term be? -/
import Derived.Test.YtppdjnejjcdagaaL1
import Derived.Test.YtppdjnejjcdagaaZAutoSaysOwn
namespace Go.Proofs.Ytppdjnejjcdagaa
open Go.RowKit
set_option linter.unusedSimpArgs false
set_option linter.unusedVariables false
set_option maxRecDepth 8000

end Go.Proofs.Ytppdjnejjcdagaa
