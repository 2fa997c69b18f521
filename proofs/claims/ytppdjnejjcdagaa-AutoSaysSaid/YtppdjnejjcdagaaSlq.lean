/- A slice without its first. -/
import Derived.Test.YtppdjnejjcdagaaW8
namespace Go.Proofs.Ytppdjnejjcdagaa
open Go.RowKit
set_option linter.unusedSimpArgs false
set_option linter.unusedVariables false

end Go.Proofs.Ytppdjnejjcdagaa
