/- Walks: two answers that are terms. -/
import Derived.Test.YtdencaekailmcaaW10
namespace Go.Proofs.Ytdencaekailmcaa
open Go.RowKit
set_option linter.unusedSimpArgs false
set_option linter.unusedVariables false

end Go.Proofs.Ytdencaekailmcaa
