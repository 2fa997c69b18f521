
/- Walks: a term with another one at a place, as the document says. -/
import Derived.Test.YtppdjnejjcdagaaW9
import Derived.Test.YtppdjnejjcdagaaZAutoSaysOwn
import Derived.Test.YtppdjnejjcdagaaSlq
namespace Go.Proofs.Ytppdjnejjcdagaa
open Go.RowKit
set_option linter.unusedSimpArgs false
set_option linter.unusedVariables false
set_option maxRecDepth 8000

end Go.Proofs.Ytppdjnejjcdagaa
