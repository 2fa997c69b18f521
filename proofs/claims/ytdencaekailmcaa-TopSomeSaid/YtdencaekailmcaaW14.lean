
/- Walks: Put, and the law on it. -/
import Derived.Test.YtdencaekailmcaaW13
import Derived.Test.YtdencaekailmcaaW12
import Derived.Test.YtdencaekailmcaaW11
namespace Go.Proofs.Ytdencaekailmcaa
open Go.RowKit
set_option linter.unusedSimpArgs false
set_option linter.unusedVariables false
set_option maxRecDepth 8000

end Go.Proofs.Ytdencaekailmcaa
