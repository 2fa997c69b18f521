
/- Walks: how many knots a lambda term has. -/
import Derived.Test.YtppdjnejjcdagaaRows
import Derived.Test.YtppdjnejjcdagaaLm
import Derived.Test.YtppdjnejjcdagaaZAutoSaysOwn
namespace Go.Proofs.Ytppdjnejjcdagaa
open Go.RowKit
set_option linter.unusedSimpArgs false
set_option linter.unusedVariables false

end Go.Proofs.Ytppdjnejjcdagaa
